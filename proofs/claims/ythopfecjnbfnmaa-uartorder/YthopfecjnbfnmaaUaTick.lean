/-
  What uart's Tick answers.
-/
import Derived.Test.YthopfecjnbfnmaaUaCheck
import Derived.Test.YthopfecjnbfnmaaUaTake
namespace Go.Proofs.Ythopfecjnbfnmaa
open Go.RowKit
set_option linter.unusedVariables false

set_option maxHeartbeats 1000000 in
theorem tick_no (s : U) (ok : s.Ok) (hm : mayU s = false) (w : World) :
    Calls Try.prog 6 #[.agg s.cells] w fun e w' => e = .returned (.tuple #[.agg (tickV s).1.cells, .int .u8 ((tickV s).2.1 : Nat), .bool (tickV s).2.2]) ∧ Below w.heap.size w w' := by
  have HV : tickV s = (s, 0, false) := by unfold tickV; rw [hm, if_neg (by decide)]
  rw [HV]; clear HV
  have HC := hide (fun w => check_no s ok hm w)
  go_enter Try.func6, Try.ntmps6
  go_wp2_with (first | ((with_reducible refine bx_up w.heap.size s ?_ ?_ ?_); exact rfl; exact rfl; intro W hr hb hz) | ((with_reducible refine al_up (w.heap.size + 1) ?_ ?_); exact hz.out; intro W hq hb' hz'; replace hr := hr.bl (hz.out ▸ hb'); replace hb := hb.trans (hb'.mono (by omega)); replace hz := hz') | ((with_reducible refine ld_up w.heap.size _ hr ?_ ?_ ?_); exact rfl; exact rfl) | (go_at_call 14; (with_reducible refine (HC.out _).mono ?_); rintro e W ⟨rfl, hbc⟩; replace hr := hr.bl hbc; replace hq := hq.bl hbc; replace hb := below_bl rfl hb hbc) | ((with_reducible refine st_up (w.heap.size + 1) _ s hq ?_ ?_ ?_); exact rfl; exact rfl; intro W hnew ho; replace hr := hr.only ho (by omega); replace hq := hnew; replace hb := ho.bel _ _ (by omega) hb))
  refine bodyPost_ret (results_cell_two Try.results6 _ _ (w.heap.size + 1) _ _ _ rfl hq Try.underlying29 rfl size_up) rfl ?_
  exact ⟨rfl, hb⟩

set_option maxHeartbeats 1000000 in
theorem tick_idle (s : U) (ok : s.Ok) (hm : mayU s = true) (h0 : s.tx.n = 0) (w : World) :
    Calls Try.prog 6 #[.agg s.cells] w fun e w' => e = .returned (.tuple #[.agg (tickV s).1.cells, .int .u8 ((tickV s).2.1 : Nat), .bool (tickV s).2.2]) ∧ Below w.heap.size w w' := by
  have HV : tickV s = (s, 0, false) := by unfold tickV tickS; rw [if_pos hm, if_pos h0]
  rw [HV]; clear HV
  have t0 : (s.tx.n == 0) = true := by simp [h0]
  clear h0
  have HC := hide (fun w => check_ok s ok hm w)
  have HE := hide (fun f w => empty_any f w)
  go_enter Try.func6, Try.ntmps6
  go_wp2_with (first | ((with_reducible refine bx_up w.heap.size s ?_ ?_ ?_); exact rfl; exact rfl; intro W hr hb hz) | ((with_reducible refine al_up (w.heap.size + 1) ?_ ?_); exact hz.out; intro W hq hb' hz'; replace hr := hr.bl (hz.out ▸ hb'); replace hb := hb.trans (hb'.mono (by omega)); replace hz := hz') | ((with_reducible refine ld_up w.heap.size _ hr ?_ ?_ ?_); exact rfl; exact rfl) | (go_at_call 14; (with_reducible refine (HC.out _).mono ?_); rintro e W ⟨rfl, hbc⟩; replace hr := hr.bl hbc; replace hq := hq.bl hbc; replace hb := below_bl rfl hb hbc) | ((with_reducible refine ld_txp w.heap.size _ _ hr ?_ ?_ ?_); exact rfl; exact rfl) | (go_at_call 15; (with_reducible refine (HE.out _ _).mono ?_); rintro e W ⟨rfl, hbc⟩; replace hr := hr.bl hbc; replace hq := hq.bl hbc; replace hb := below_bl rfl hb hbc) | ((with_reducible refine st_up (w.heap.size + 1) _ s hq ?_ ?_ ?_); exact rfl; exact rfl; intro W hnew ho; replace hr := hr.only ho (by omega); replace hq := hnew; replace hb := ho.bel _ _ (by omega) hb))
  refine bodyPost_ret (results_cell_two Try.results6 _ _ (w.heap.size + 1) _ _ _ rfl hq Try.underlying29 rfl size_up) rfl ?_
  exact ⟨rfl, hb⟩

set_option maxHeartbeats 1000000 in
theorem tick_wait (s : U) (ok : s.Ok) (hm : mayU s = true) (h0 : ¬ s.tx.n = 0) (h1 : 0 ≤ s.wt) (h2 : s.wt < 3) (w : World) :
    Calls Try.prog 6 #[.agg s.cells] w fun e w' => e = .returned (.tuple #[.agg (tickV s).1.cells, .int .u8 ((tickV s).2.1 : Nat), .bool (tickV s).2.2]) ∧ Below w.heap.size w w' := by
  have HV : tickV s = (withWt s (s.wt + 1), 0, false) := by unfold tickV tickS; rw [if_pos hm, if_neg h0, if_pos h2]
  rw [HV]; clear HV
  have t0 : (s.tx.n == 0) = false := by simp; omega
  have t1 : (withWt s (s.wt + 1)).wt < 4 := by show s.wt + 1 < 4; omega
  clear h0
  have HC := hide (fun w => check_ok s ok hm w)
  have HE := hide (fun f w => empty_any f w)
  go_enter Try.func6, Try.ntmps6
  go_wp2_with (first | ((with_reducible refine bx_up w.heap.size s ?_ ?_ ?_); exact rfl; exact rfl; intro W hr hb hz) | ((with_reducible refine al_up (w.heap.size + 1) ?_ ?_); exact hz.out; intro W hq hb' hz'; replace hr := hr.bl (hz.out ▸ hb'); replace hb := hb.trans (hb'.mono (by omega)); replace hz := hz') | ((with_reducible refine ld_up w.heap.size _ hr ?_ ?_ ?_); exact rfl; exact rfl) | (go_at_call 14; (with_reducible refine (HC.out _).mono ?_); rintro e W ⟨rfl, hbc⟩; replace hr := hr.bl hbc; replace hq := hq.bl hbc; replace hb := below_bl rfl hb hbc) | ((with_reducible refine ld_txp w.heap.size _ _ hr ?_ ?_ ?_); exact rfl; exact rfl) | (go_at_call 15; (with_reducible refine (HE.out _ _).mono ?_); rintro e W ⟨rfl, hbc⟩; replace hr := hr.bl hbc; replace hq := hq.bl hbc; replace hb := below_bl rfl hb hbc) | ((with_reducible refine ld_wt w.heap.size _ _ hr ?_ ?_); exact rfl) | ((with_reducible refine st_wt w.heap.size _ (s.wt + 1) _ hr ?_ ?_ ?_); exact rfl; exact rfl; intro W hnew ho; replace hq := hq.only ho (by omega); replace hr := hnew; replace hb := ho.bel _ _ (by omega) hb) | ((with_reducible refine st_up (w.heap.size + 1) _ (withWt s (s.wt + 1)) hq ?_ ?_ ?_); exact rfl; exact rfl; intro W hnew ho; replace hr := hr.only ho (by omega); replace hq := hnew; replace hb := ho.bel _ _ (by omega) hb))
  refine bodyPost_ret (results_cell_two Try.results6 _ _ (w.heap.size + 1) _ _ _ rfl hq Try.underlying29 rfl size_up) rfl ?_
  exact ⟨rfl, hb⟩

set_option maxHeartbeats 1000000 in
theorem tick_out (s : U) (ok : s.Ok) (hm : mayU s = true) (h0 : 0 < s.tx.n) (h1 : s.tx.n ≤ 16) (h2 : s.wt = 3) (w : World) :
    Calls Try.prog 6 #[.agg s.cells] w fun e w' => e = .returned (.tuple #[.agg (tickV s).1.cells, .int .u8 ((tickV s).2.1 : Nat), .bool (tickV s).2.2]) ∧ Below w.heap.size w w' := by
  have HV : tickV s = (withTx (withWt s 0) (takeF s.tx), s.tx.b 0, true) := by unfold tickV tickS; rw [if_pos hm, if_neg (by omega), if_neg (by omega)]
  rw [HV]; clear HV
  have t0 : (s.tx.n == 0) = false := by simp; omega
  have HT := hide (fun w => take_any (withWt s 0).tx h0 h1 w)
  have t4 : decide ((withWt s 4).wt < 4) = false := rfl
  have HC := hide (fun w => check_ok s ok hm w)
  clear h0 h1
  have HE := hide (fun f w => empty_any f w)
  go_enter Try.func6, Try.ntmps6
  go_wp2_with (first | ((with_reducible refine bx_up w.heap.size s ?_ ?_ ?_); exact rfl; exact rfl; intro W hr hb hz) | ((with_reducible refine al_up (w.heap.size + 1) ?_ ?_); exact hz.out; intro W hq hb' hz'; replace hr := hr.bl (hz.out ▸ hb'); replace hb := hb.trans (hb'.mono (by omega)); replace hz := hz') | ((with_reducible refine ld_up w.heap.size _ hr ?_ ?_ ?_); exact rfl; exact rfl) | (go_at_call 14; (with_reducible refine (HC.out _).mono ?_); rintro e W ⟨rfl, hbc⟩; replace hr := hr.bl hbc; replace hq := hq.bl hbc; replace hb := below_bl rfl hb hbc) | ((with_reducible refine ld_txp w.heap.size _ _ hr ?_ ?_ ?_); exact rfl; exact rfl) | (go_at_call 15; (with_reducible refine (HE.out _ _).mono ?_); rintro e W ⟨rfl, hbc⟩; replace hr := hr.bl hbc; replace hq := hq.bl hbc; replace hb := below_bl rfl hb hbc) | ((with_reducible refine ld_wt w.heap.size s _ hr ?_ ?_); exact rfl; rw [h2]) | ((with_reducible refine ld_wt w.heap.size (withWt s 4) _ hr ?_ ?_); exact rfl) | ((with_reducible refine st_wt w.heap.size s 4 _ hr ?_ ?_ ?_); exact rfl; exact rfl; intro W hnew ho; replace hq := hq.only ho (by omega); replace hr := hnew; replace hb := ho.bel _ _ (by omega) hb) | ((with_reducible refine st_wt w.heap.size (withWt s 4) 0 _ hr ?_ ?_ ?_); exact rfl; exact rfl; intro W hnew ho; replace hq := hq.only ho (by omega); replace hr := (show RowAt W w.heap.size (withWt s 0).cells 29 from hnew); replace hb := ho.bel _ _ (by omega) hb) | (go_at_call 16; (with_reducible refine (HT.out _).mono ?_); rintro e W ⟨rfl, hbc⟩; replace hr := hr.bl hbc; replace hq := hq.bl hbc; replace hb := below_bl rfl hb hbc) | ((with_reducible refine st_txp w.heap.size _ (takeF s.tx) _ hr ?_ ?_ ?_); exact rfl; exact rfl; intro W hnew ho; replace hq := hq.only ho (by omega); replace hr := hnew; replace hb := ho.bel _ _ (by omega) hb) | ((with_reducible refine st_up (w.heap.size + 1) _ (withTx (withWt s 0) (takeF s.tx)) hq ?_ ?_ ?_); exact rfl; exact rfl; intro W hnew ho; replace hr := hr.only ho (by omega); replace hq := hnew; replace hb := ho.bel _ _ (by omega) hb))
  refine bodyPost_ret (results_cell_two Try.results6 _ _ (w.heap.size + 1) _ _ _ rfl hq Try.underlying29 rfl size_up) rfl ?_
  exact ⟨rfl, hb⟩

theorem utick_any (s : U) (ok : s.Ok) (w : World) :
    Calls Try.prog 6 #[.agg s.cells] w fun e w' => e = .returned (.tuple #[.agg (tickV s).1.cells, .int .u8 ((tickV s).2.1 : Nat), .bool (tickV s).2.2]) ∧ Below w.heap.size w w' := by
  cases hm : mayU s with
  | false => exact tick_no s ok hm w
  | true =>
    have hM := (mayU_iff s).1 hm
    have h0 := mayF.n0 hM.tx
    have h1 := mayF.n16 hM.tx
    have h2 := hM.w0
    have h3 := hM.w3
    by_cases h : s.tx.n = 0
    · exact tick_idle s ok hm h w
    by_cases h4 : s.wt < 3
    · exact tick_wait s ok hm h h2 h4 w
    · exact tick_out s ok hm (by omega) h1 (by omega) w
end Go.Proofs.Ythopfecjnbfnmaa
