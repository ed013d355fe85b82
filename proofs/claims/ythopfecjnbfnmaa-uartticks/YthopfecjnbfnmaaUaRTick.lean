/-
  What the document's Tick answers.
-/
import Derived.Test.YthopfecjnbfnmaaUaRCheck
import Derived.Test.YthopfecjnbfnmaaUaRTake
namespace Go.Proofs.Ythopfecjnbfnmaa
open Go.RowKit
set_option linter.unusedVariables false

attribute [local go_sem] U.at0 U.at1 U.at2 U.at3 U.at4 U.at5 U.at6 U.at7 U.at8 U.at9 U.at10 U.at11 U.at12 U.at13 U.at14 U.at15 U.at16 U.at17 U.at18 U.at19 U.at20 U.at21 U.at22 U.at23 U.at24 U.at25 U.at26 U.at27 U.at28 U.at29 U.at30 U.at31 U.at32 U.at33 U.at34 U.at35 U.at36 U.at37 U.at38 U.at39 U.at40 U.at41
set_option maxHeartbeats 1000000 in
theorem rtick_no (s : U) (ok : s.Ok) (hm : mayU s = false) (w : World) :
    Calls Try.prog 8 #[.agg s.cells] w fun e w' => e = .returned (.tuple #[.agg (tickV s).1.cells, .int .u8 ((tickV s).2.1 : Nat), .bool (tickV s).2.2]) ∧ Below w.heap.size w w' := by
  have HV : tickV s = (s, 0, false) := by unfold tickV; rw [hm, if_neg (by decide)]
  rw [HV]; clear HV
  have HC := hide (fun w => rcheck_no s ok hm w)
  go_enter Try.func8, Try.ntmps8
  go_wp2_with (first | ((with_reducible refine bx_ur w.heap.size s ?_ ?_ ?_); exact rfl; exact rfl; intro W hr hb hz) | ((with_reducible refine al_ur (w.heap.size + 1) ?_ ?_); exact hz.out; intro W hq hb' hz'; replace hr := hr.bl (hz.out ▸ hb'); replace hb := hb.trans (hb'.mono (by omega)); replace hz := hz') | ((with_reducible refine ld_ur w.heap.size _ hr ?_ ?_ ?_); exact rfl; exact rfl) | (go_at_call 17; (with_reducible refine (HC.out _).mono ?_); rintro e W ⟨rfl, hbc⟩; replace hr := hr.bl hbc; replace hq := hq.bl hbc; replace hb := below_bl rfl hb hbc) | ((with_reducible refine st_ur (w.heap.size + 1) _ s hq ?_ ?_ ?_); exact rfl; exact rfl; intro W hnew ho; replace hr := hr.only ho (by omega); replace hq := hnew; replace hb := ho.bel _ _ (by omega) hb))
  refine bodyPost_ret (results_cell_two Try.results8 _ _ (w.heap.size + 1) _ _ _ rfl hq Try.underlying26 rfl size_ur) rfl ?_
  exact ⟨rfl, hb⟩

set_option maxHeartbeats 1000000 in
theorem rtick_idle (s : U) (ok : s.Ok) (hm : mayU s = true) (h0 : s.tx.n = 0) (w : World) :
    Calls Try.prog 8 #[.agg s.cells] w fun e w' => e = .returned (.tuple #[.agg (tickV s).1.cells, .int .u8 ((tickV s).2.1 : Nat), .bool (tickV s).2.2]) ∧ Below w.heap.size w w' := by
  have HV : tickV s = (s, 0, false) := by unfold tickV tickS; rw [if_pos hm, if_pos h0]
  rw [HV]; clear HV
  have t0 : (s.tx.n == 0) = true := by simp [h0]
  clear h0
  have HC := hide (fun w => rcheck_ok s ok hm w)
  go_enter Try.func8, Try.ntmps8
  go_wp2_with (first | ((with_reducible refine bx_ur w.heap.size s ?_ ?_ ?_); exact rfl; exact rfl; intro W hr hb hz) | ((with_reducible refine al_ur (w.heap.size + 1) ?_ ?_); exact hz.out; intro W hq hb' hz'; replace hr := hr.bl (hz.out ▸ hb'); replace hb := hb.trans (hb'.mono (by omega)); replace hz := hz') | ((with_reducible refine ld_ur w.heap.size _ hr ?_ ?_ ?_); exact rfl; exact rfl) | (go_at_call 17; (with_reducible refine (HC.out _).mono ?_); rintro e W ⟨rfl, hbc⟩; replace hr := hr.bl hbc; replace hq := hq.bl hbc; have fx := hr.cell; replace hb := below_bl rfl hb hbc) | ((with_reducible refine st_ur (w.heap.size + 1) _ s hq ?_ ?_ ?_); exact rfl; exact rfl; intro W hnew ho; replace hr := hr.only ho (by omega); replace hq := hnew; replace hb := ho.bel _ _ (by omega) hb))
  refine bodyPost_ret (results_cell_two Try.results8 _ _ (w.heap.size + 1) _ _ _ rfl hq Try.underlying26 rfl size_ur) rfl ?_
  exact ⟨rfl, hb⟩

set_option maxHeartbeats 1000000 in
theorem rtick_wait (s : U) (ok : s.Ok) (hm : mayU s = true) (h0 : ¬ s.tx.n = 0) (h1 : 0 ≤ s.wt) (h2 : s.wt < 3) (w : World) :
    Calls Try.prog 8 #[.agg s.cells] w fun e w' => e = .returned (.tuple #[.agg (tickV s).1.cells, .int .u8 ((tickV s).2.1 : Nat), .bool (tickV s).2.2]) ∧ Below w.heap.size w w' := by
  have HV : tickV s = (withWt s (s.wt + 1), 0, false) := by unfold tickV tickS; rw [if_pos hm, if_neg h0, if_pos h2]
  rw [HV]; clear HV
  have t0 : (s.tx.n == 0) = false := by simp; omega
  have t1 : (withWt s (s.wt + 1)).wt > 0 := by show s.wt + 1 > 0; omega
  have t2 : (s.wt + 1).tmod 4 = s.wt + 1 := by rw [Int.tmod_eq_emod_of_nonneg (by omega)]; omega
  clear h0
  have HC := hide (fun w => rcheck_ok s ok hm w)
  go_enter Try.func8, Try.ntmps8
  go_wp2_with (first | ((with_reducible refine bx_ur w.heap.size s ?_ ?_ ?_); exact rfl; exact rfl; intro W hr hb hz) | ((with_reducible refine al_ur (w.heap.size + 1) ?_ ?_); exact hz.out; intro W hq hb' hz'; replace hr := hr.bl (hz.out ▸ hb'); replace hb := hb.trans (hb'.mono (by omega)); replace hz := hz') | ((with_reducible refine ld_ur w.heap.size _ hr ?_ ?_ ?_); exact rfl; exact rfl) | (go_at_call 17; (with_reducible refine (HC.out _).mono ?_); rintro e W ⟨rfl, hbc⟩; replace hr := hr.bl hbc; replace hq := hq.bl hbc; have fx := hr.cell; replace hb := below_bl rfl hb hbc) | ((with_reducible refine ld_wt w.heap.size _ _ hr ?_ ?_); exact rfl) | ((with_reducible refine st_wt w.heap.size s (s.wt + 1) _ hr ?_ ?_ ?_); exact rfl; exact rfl; intro W hnew ho; clear fx; replace hq := hq.only ho (by omega); replace hr := hnew; replace hb := ho.bel _ _ (by omega) hb) | ((with_reducible refine st_ur (w.heap.size + 1) _ (withWt s (s.wt + 1)) hq ?_ ?_ ?_); exact rfl; exact rfl; intro W hnew ho; replace hr := hr.only ho (by omega); replace hq := hnew; replace hb := ho.bel _ _ (by omega) hb))
  refine bodyPost_ret (results_cell_two Try.results8 _ _ (w.heap.size + 1) _ _ _ rfl hq Try.underlying26 rfl size_ur) rfl ?_
  exact ⟨rfl, hb⟩

set_option maxHeartbeats 1000000 in
theorem rtick_out (s : U) (ok : s.Ok) (hm : mayU s = true) (h0 : 0 < s.tx.n) (h2 : s.wt = 3) (w : World) :
    Calls Try.prog 8 #[.agg s.cells] w fun e w' => e = .returned (.tuple #[.agg (tickV s).1.cells, .int .u8 ((tickV s).2.1 : Nat), .bool (tickV s).2.2]) ∧ Below w.heap.size w w' := by
  have HV : tickV s = (withTx (withWt s 0) (takeF s.tx), s.tx.b 0, true) := by unfold tickV tickS; rw [if_pos hm, if_neg (by omega), if_neg (by omega)]
  rw [HV]; clear HV
  have t0 : (s.tx.n == 0) = false := by simp; omega
  have HT := hide (fun w => rtake_any (withWt s 0).tx ((mayU_iff s).1 hm).tx h0 w)
  have t4 : decide ((withWt s 0).wt > 0) = false := rfl
  have t5 : decide (0 < (withWt s 0).wt) = false := rfl
  have HC := hide (fun w => rcheck_ok s ok hm w)
  clear h0
  go_enter Try.func8, Try.ntmps8
  go_wp2_with (first | ((with_reducible refine bx_ur w.heap.size s ?_ ?_ ?_); exact rfl; exact rfl; intro W hr hb hz) | ((with_reducible refine al_ur (w.heap.size + 1) ?_ ?_); exact hz.out; intro W hq hb' hz'; replace hr := hr.bl (hz.out ▸ hb'); replace hb := hb.trans (hb'.mono (by omega)); replace hz := hz') | ((with_reducible refine ld_ur w.heap.size _ hr ?_ ?_ ?_); exact rfl; exact rfl) | (go_at_call 17; (with_reducible refine (HC.out _).mono ?_); rintro e W ⟨rfl, hbc⟩; replace hr := hr.bl hbc; replace hq := hq.bl hbc; have fx := hr.cell; replace hb := below_bl rfl hb hbc) | ((with_reducible refine ld_wt w.heap.size s _ hr ?_ ?_); exact rfl; rw [h2]) | ((with_reducible refine ld_wt w.heap.size (withWt s 0) _ hr ?_ ?_); exact rfl) | ((with_reducible refine st_wt w.heap.size s 0 _ hr ?_ ?_ ?_); exact rfl; exact rfl; intro W hnew ho; clear fx; replace hq := hq.only ho (by omega); replace hr := hnew; replace hb := ho.bel _ _ (by omega) hb) | ((with_reducible refine ld_txr w.heap.size _ _ hr ?_ ?_ ?_); exact rfl; exact rfl) | (go_at_call 18; (with_reducible refine (HT.out _).mono ?_); rintro e W ⟨rfl, hbc⟩; replace hr := hr.bl hbc; replace hq := hq.bl hbc; obtain ⟨NX, hNX⟩ : ∃ n, W.heap.size = n := ⟨_, rfl⟩; have lNX : w.heap.size + 2 ≤ NX := (by (have := hq.lt; omega)); replace hNX := hide hNX; replace hb := below_bl rfl hb hbc) | ((with_reducible refine al_fr NX ?_ ?_); exact hNX.out; intro W hx hb' hz2; replace hr := hr.bl (hNX.out ▸ hb'); replace hq := hq.bl (hNX.out ▸ hb'); replace hb := hb.trans (hb'.mono (by omega))) | ((with_reducible refine st_fr NX _ (takeF s.tx) hx ?_ ?_ ?_); exact rfl; exact rfl; intro W hnew ho; replace hr := hr.only ho (by omega); replace hq := hq.only ho (by omega); replace hx := hnew; replace hb := ho.bel _ _ (by omega) hb) | ((with_reducible refine ld_fr NX (takeF s.tx) hx ?_ ?_ ?_); exact rfl; exact rfl) | ((with_reducible refine st_txr w.heap.size _ (takeF s.tx) _ hr ?_ ?_ ?_); exact rfl; exact rfl; intro W hnew ho; replace hq := hq.only ho (by omega); replace hx := hx.only ho (by omega); replace hr := hnew; replace hb := ho.bel _ _ (by omega) hb) | ((with_reducible refine st_ur (w.heap.size + 1) _ (withTx (withWt s 0) (takeF s.tx)) hq ?_ ?_ ?_); exact rfl; exact rfl; intro W hnew ho; replace hr := hr.only ho (by omega); replace hx := hx.only ho (by omega); replace hq := hnew; replace hb := ho.bel _ _ (by omega) hb))
  refine bodyPost_ret (results_cell_two Try.results8 _ _ (w.heap.size + 1) _ _ _ rfl hq Try.underlying26 rfl size_ur) rfl ?_
  exact ⟨rfl, hb⟩

theorem rutick_any (s : U) (ok : s.Ok) (w : World) :
    Calls Try.prog 8 #[.agg s.cells] w fun e w' => e = .returned (.tuple #[.agg (tickV s).1.cells, .int .u8 ((tickV s).2.1 : Nat), .bool (tickV s).2.2]) ∧ Below w.heap.size w w' := by
  cases hm : mayU s with
  | false => exact rtick_no s ok hm w
  | true =>
    have hM := (mayU_iff s).1 hm
    have h0 := mayF.n0 hM.tx
    have h2 := hM.w0
    have h3 := hM.w3
    by_cases h : s.tx.n = 0
    · exact rtick_idle s ok hm h w
    by_cases h4 : s.wt < 3
    · exact rtick_wait s ok hm h h2 h4 w
    · exact rtick_out s ok hm (by omega) (by omega) w
end Go.Proofs.Ythopfecjnbfnmaa
