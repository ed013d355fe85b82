/-
  What uart's Put answers.
-/
import Derived.Test.YthopfecjnbfnmaaUaCheck
namespace Go.Proofs.Ythopfecjnbfnmaa
open Go.RowKit
set_option linter.unusedVariables false

set_option maxHeartbeats 1000000 in
theorem put_no (s : U) (ok : s.Ok) (c : Nat) (hm : mayU s = false) (w : World) :
    Calls Try.prog 9 #[.agg s.cells, .int .u8 (c : Nat)] w fun e w' => e = .returned (.agg (putV s c).cells) ∧ Below w.heap.size w w' := by
  have HV : putV s c = s := by unfold putV; rw [hm, if_neg (by decide)]
  rw [HV]; clear HV
  have HC := hide (fun w => check_no s ok hm w)
  go_enter Try.func9, Try.ntmps9
  go_wp2_with (first | ((with_reducible refine bx_up w.heap.size s ?_ ?_ ?_); exact rfl; exact rfl; intro W hr hb hz) | ((with_reducible refine al_up (w.heap.size + 1) ?_ ?_); exact hz.out; intro W hq hb' hz'; replace hr := hr.bl (hz.out ▸ hb'); replace hb := hb.trans (hb'.mono (by omega)); replace hz := hz') | ((with_reducible refine ld_up w.heap.size _ hr ?_ ?_ ?_); exact rfl; exact rfl) | (go_at_call 14; (with_reducible refine (HC.out _).mono ?_); rintro e W ⟨rfl, hbc⟩; replace hr := hr.bl hbc; replace hq := hq.bl hbc; replace hb := below_bl rfl hb hbc) | ((with_reducible refine st_up (w.heap.size + 1) _ s hq ?_ ?_ ?_); exact rfl; exact rfl; intro W hnew ho; replace hr := hr.only ho (by omega); replace hq := hnew; replace hb := ho.bel _ _ (by omega) hb))
  refine bodyPost_ret (results_cell_row Try.results9 _ _ (w.heap.size + 1) _ _ _ _ rfl hq Try.underlying29 rfl size_up) rfl ?_
  exact ⟨rfl, hb⟩

set_option maxHeartbeats 1000000 in
theorem put_full (s : U) (ok : s.Ok) (c : Nat) (hm : mayU s = true) (h0 : s.rx.n = 16) (w : World) :
    Calls Try.prog 9 #[.agg s.cells, .int .u8 (c : Nat)] w fun e w' => e = .returned (.agg (putV s c).cells) ∧ Below w.heap.size w w' := by
  have HV : putV s c = withOv s true := by unfold putV putS; rw [if_pos hm, if_pos h0]
  rw [HV]; clear HV
  have t0 : (s.rx.n == 16) = true := by simp [h0]
  clear h0
  have HC := hide (fun w => check_ok s ok hm w)
  have HF := hide (fun f w => full_any f w)
  go_enter Try.func9, Try.ntmps9
  go_wp2_with (first | ((with_reducible refine bx_up w.heap.size s ?_ ?_ ?_); exact rfl; exact rfl; intro W hr hb hz) | ((with_reducible refine al_up (w.heap.size + 1) ?_ ?_); exact hz.out; intro W hq hb' hz'; replace hr := hr.bl (hz.out ▸ hb'); replace hb := hb.trans (hb'.mono (by omega)); replace hz := hz') | ((with_reducible refine ld_up w.heap.size _ hr ?_ ?_ ?_); exact rfl; exact rfl) | (go_at_call 14; (with_reducible refine (HC.out _).mono ?_); rintro e W ⟨rfl, hbc⟩; replace hr := hr.bl hbc; replace hq := hq.bl hbc; replace hb := below_bl rfl hb hbc) | ((with_reducible refine ld_rxp w.heap.size _ _ hr ?_ ?_ ?_); exact rfl; exact rfl) | (go_at_call 19; (with_reducible refine (HF.out _ _).mono ?_); rintro e W ⟨rfl, hbc⟩; replace hr := hr.bl hbc; replace hq := hq.bl hbc; replace hb := below_bl rfl hb hbc) | ((with_reducible refine st_ov w.heap.size _ true _ hr ?_ ?_ ?_); exact rfl; exact rfl; intro W hnew ho; replace hq := hq.only ho (by omega); replace hr := hnew; replace hb := ho.bel _ _ (by omega) hb) | ((with_reducible refine st_up (w.heap.size + 1) _ (withOv s true) hq ?_ ?_ ?_); exact rfl; exact rfl; intro W hnew ho; replace hr := hr.only ho (by omega); replace hq := hnew; replace hb := ho.bel _ _ (by omega) hb))
  refine bodyPost_ret (results_cell_row Try.results9 _ _ (w.heap.size + 1) _ _ _ _ rfl hq Try.underlying29 rfl size_up) rfl ?_
  exact ⟨rfl, hb⟩

set_option maxHeartbeats 1000000 in
theorem put_room (s : U) (ok : s.Ok) (c : Nat) (hm : mayU s = true) (h0 : 0 ≤ s.rx.n) (h1 : s.rx.n < 16) (w : World) :
    Calls Try.prog 9 #[.agg s.cells, .int .u8 (c : Nat)] w fun e w' => e = .returned (.agg (putV s c).cells) ∧ Below w.heap.size w w' := by
  have HV : putV s c = withRx s (putF s.rx c) := by unfold putV putS; rw [if_pos hm, if_neg (by omega)]
  rw [HV]; clear HV
  have t0 : (s.rx.n == 16) = false := by simp; omega
  have HP := hide (fun w => put_any s.rx s.rx.n.toNat (by omega) (by omega) c w)
  clear h0 h1
  have HC := hide (fun w => check_ok s ok hm w)
  have HF := hide (fun f w => full_any f w)
  go_enter Try.func9, Try.ntmps9
  go_wp2_with (first | ((with_reducible refine bx_up w.heap.size s ?_ ?_ ?_); exact rfl; exact rfl; intro W hr hb hz) | ((with_reducible refine al_up (w.heap.size + 1) ?_ ?_); exact hz.out; intro W hq hb' hz'; replace hr := hr.bl (hz.out ▸ hb'); replace hb := hb.trans (hb'.mono (by omega)); replace hz := hz') | ((with_reducible refine ld_up w.heap.size _ hr ?_ ?_ ?_); exact rfl; exact rfl) | (go_at_call 14; (with_reducible refine (HC.out _).mono ?_); rintro e W ⟨rfl, hbc⟩; replace hr := hr.bl hbc; replace hq := hq.bl hbc; replace hb := below_bl rfl hb hbc) | ((with_reducible refine ld_rxp w.heap.size _ _ hr ?_ ?_ ?_); exact rfl; exact rfl) | (go_at_call 19; (with_reducible refine (HF.out _ _).mono ?_); rintro e W ⟨rfl, hbc⟩; replace hr := hr.bl hbc; replace hq := hq.bl hbc; replace hb := below_bl rfl hb hbc) | (go_at_call 20; (with_reducible refine (HP.out _).mono ?_); rintro e W ⟨rfl, hbc⟩; replace hr := hr.bl hbc; replace hq := hq.bl hbc; replace hb := below_bl rfl hb hbc) | ((with_reducible refine st_rxp w.heap.size _ (putF s.rx c) _ hr ?_ ?_ ?_); exact rfl; exact rfl; intro W hnew ho; replace hq := hq.only ho (by omega); replace hr := hnew; replace hb := ho.bel _ _ (by omega) hb) | ((with_reducible refine st_up (w.heap.size + 1) _ (withRx s (putF s.rx c)) hq ?_ ?_ ?_); exact rfl; exact rfl; intro W hnew ho; replace hr := hr.only ho (by omega); replace hq := hnew; replace hb := ho.bel _ _ (by omega) hb))
  refine bodyPost_ret (results_cell_row Try.results9 _ _ (w.heap.size + 1) _ _ _ _ rfl hq Try.underlying29 rfl size_up) rfl ?_
  exact ⟨rfl, hb⟩

theorem uput_any (s : U) (ok : s.Ok) (c : Nat) (w : World) :
    Calls Try.prog 9 #[.agg s.cells, .int .u8 (c : Nat)] w fun e w' => e = .returned (.agg (putV s c).cells) ∧ Below w.heap.size w w' := by
  cases hm : mayU s with
  | false => exact put_no s ok c hm w
  | true =>
    have hf := ((mayU_iff s).1 hm).rx
    have h0 := mayF.n0 hf
    have h1 := mayF.n16 hf
    by_cases h : s.rx.n = 16
    · exact put_full s ok c hm h w
    · exact put_room s ok c hm h0 (by omega) w
end Go.Proofs.Ythopfecjnbfnmaa
