/-
  What the document's Put answers.
-/
import Derived.Test.YthopfecjnbfnmaaUaRCheck
namespace Go.Proofs.Ythopfecjnbfnmaa
open Go.RowKit
set_option linter.unusedVariables false

set_option maxHeartbeats 1000000 in
theorem rput_no (s : U) (ok : s.Ok) (c : Nat) (hm : mayU s = false) (w : World) :
    Calls Try.prog 10 #[.agg s.cells, .int .u8 (c : Nat)] w fun e w' => e = .returned (.agg (putV s c).cells) ∧ Below w.heap.size w w' := by
  have HV : putV s c = s := by unfold putV; rw [hm, if_neg (by decide)]
  rw [HV]; clear HV
  have HC := hide (fun w => rcheck_no s ok hm w)
  go_enter Try.func10, Try.ntmps10
  go_wp2_with (first | ((with_reducible refine bx_ur w.heap.size s ?_ ?_ ?_); exact rfl; exact rfl; intro W hr hb hz) | ((with_reducible refine al_ur (w.heap.size + 1) ?_ ?_); exact hz.out; intro W hq hb' hz'; replace hr := hr.bl (hz.out ▸ hb'); replace hb := hb.trans (hb'.mono (by omega)); replace hz := hz') | ((with_reducible refine ld_ur w.heap.size _ hr ?_ ?_ ?_); exact rfl; exact rfl) | (go_at_call 17; (with_reducible refine (HC.out _).mono ?_); rintro e W ⟨rfl, hbc⟩; replace hr := hr.bl hbc; replace hq := hq.bl hbc; replace hb := below_bl rfl hb hbc) | ((with_reducible refine st_ur (w.heap.size + 1) _ s hq ?_ ?_ ?_); exact rfl; exact rfl; intro W hnew ho; replace hr := hr.only ho (by omega); replace hq := hnew; replace hb := ho.bel _ _ (by omega) hb))
  refine bodyPost_ret (results_cell_row Try.results10 _ _ (w.heap.size + 1) _ _ _ _ rfl hq Try.underlying26 rfl size_ur) rfl ?_
  exact ⟨rfl, hb⟩

set_option maxHeartbeats 1000000 in
theorem rput_over_true (s : U) (ok : (withOv s true).Ok) (c : Nat) (hm : mayU (withOv s true) = true) (h0 : (withOv s true).rx.n = 16) (w : World) :
    Calls Try.prog 10 #[.agg (withOv s true).cells, .int .u8 (c : Nat)] w fun e w' => e = .returned (.agg (putV (withOv s true) c).cells) ∧ Below w.heap.size w w' := by
  have HV : putV (withOv s true) c = withOv (withOv s true) true := by unfold putV putS; rw [if_pos hm, if_pos h0]
  rw [HV]; clear HV
  have HP := hide (fun w => rput_full (withOv s true).rx h0 c w)
  clear h0
  have HC := hide (fun w => rcheck_ok (withOv s true) ok hm w)
  have hov : (withRx (withOv s true) (withOv s true).rx).ov = true := rfl
  go_enter Try.func10, Try.ntmps10
  go_wp2_with (first | ((with_reducible refine bx_ur w.heap.size (withOv s true) ?_ ?_ ?_); exact rfl; exact rfl; intro W hr hb hz) | ((with_reducible refine al_ur (w.heap.size + 1) ?_ ?_); exact hz.out; intro W hq hb' hz'; replace hr := hr.bl (hz.out ▸ hb'); replace hb := hb.trans (hb'.mono (by omega)); replace hz := hz') | ((with_reducible refine ld_ur w.heap.size _ hr ?_ ?_ ?_); exact rfl; exact rfl) | (go_at_call 17; (with_reducible refine (HC.out _).mono ?_); rintro e W ⟨rfl, hbc⟩; replace hr := hr.bl hbc; replace hq := hq.bl hbc; replace hb := below_bl rfl hb hbc) | ((with_reducible refine ld_rxr w.heap.size _ _ hr ?_ ?_ ?_); exact rfl; exact rfl) | (go_at_call 21; (with_reducible refine (HP.out _).mono ?_); rintro e W ⟨rfl, hbc⟩; replace hr := hr.bl hbc; replace hq := hq.bl hbc; obtain ⟨NX, hNX⟩ : ∃ n, W.heap.size = n := ⟨_, rfl⟩; have lNX : w.heap.size + 2 ≤ NX := (by (have := hq.lt; omega)); replace hNX := hide hNX; replace hb := below_bl rfl hb hbc) | ((with_reducible refine al_fr NX ?_ ?_); exact hNX.out; intro W hx hb' hz2; replace hr := hr.bl (hNX.out ▸ hb'); replace hq := hq.bl (hNX.out ▸ hb'); replace hb := hb.trans (hb'.mono (by omega))) | ((with_reducible refine st_fr NX _ (withOv s true).rx hx ?_ ?_ ?_); exact rfl; exact rfl; intro W hnew ho; replace hr := hr.only ho (by omega); replace hq := hq.only ho (by omega); replace hx := hnew; replace hb := ho.bel _ _ (by omega) hb) | ((with_reducible refine ld_fr NX (withOv s true).rx hx ?_ ?_ ?_); exact rfl; exact rfl) | ((with_reducible refine st_rxr w.heap.size _ (withOv s true).rx _ hr ?_ ?_ ?_); exact rfl; exact rfl; intro W hnew ho; replace hq := hq.only ho (by omega); replace hx := hx.only ho (by omega); replace hr := hnew; replace hb := ho.bel _ _ (by omega) hb) | ((with_reducible refine ld_ov w.heap.size _ _ hr ?_ ?_); exact rfl) | ((with_reducible refine st_ov w.heap.size _ true _ hr ?_ ?_ ?_); exact rfl; exact rfl; intro W hnew ho; replace hq := hq.only ho (by omega); replace hx := hx.only ho (by omega); replace hr := hnew; replace hb := ho.bel _ _ (by omega) hb) | ((with_reducible refine st_ur (w.heap.size + 1) _ (withOv (withOv s true) true) hq ?_ ?_ ?_); exact rfl; exact rfl; intro W hnew ho; replace hr := hr.only ho (by omega); replace hx := hx.only ho (by omega); replace hq := hnew; replace hb := ho.bel _ _ (by omega) hb))
  refine bodyPost_ret (results_cell_row Try.results10 _ _ (w.heap.size + 1) _ _ _ _ rfl hq Try.underlying26 rfl size_ur) rfl ?_
  exact ⟨rfl, hb⟩

set_option maxHeartbeats 1000000 in
theorem rput_in_true (s : U) (ok : (withOv s true).Ok) (c : Nat) (hm : mayU (withOv s true) = true) (h0 : 0 ≤ (withOv s true).rx.n) (h1 : (withOv s true).rx.n < 16) (w : World) :
    Calls Try.prog 10 #[.agg (withOv s true).cells, .int .u8 (c : Nat)] w fun e w' => e = .returned (.agg (putV (withOv s true) c).cells) ∧ Below w.heap.size w w' := by
  have HV : putV (withOv s true) c = withRx (withOv s true) (putF (withOv s true).rx c) := by unfold putV putS; rw [if_pos hm, if_neg (by omega)]
  rw [HV]; clear HV
  have HP := hide (fun w => rput_room (withOv s true).rx (withOv s true).rx.n.toNat (by omega) (by omega) c w)
  clear h0 h1
  have HC := hide (fun w => rcheck_ok (withOv s true) ok hm w)
  have hov : (withRx (withOv s true) (putF (withOv s true).rx c)).ov = true := rfl
  go_enter Try.func10, Try.ntmps10
  go_wp2_with (first | ((with_reducible refine bx_ur w.heap.size (withOv s true) ?_ ?_ ?_); exact rfl; exact rfl; intro W hr hb hz) | ((with_reducible refine al_ur (w.heap.size + 1) ?_ ?_); exact hz.out; intro W hq hb' hz'; replace hr := hr.bl (hz.out ▸ hb'); replace hb := hb.trans (hb'.mono (by omega)); replace hz := hz') | ((with_reducible refine ld_ur w.heap.size _ hr ?_ ?_ ?_); exact rfl; exact rfl) | (go_at_call 17; (with_reducible refine (HC.out _).mono ?_); rintro e W ⟨rfl, hbc⟩; replace hr := hr.bl hbc; replace hq := hq.bl hbc; replace hb := below_bl rfl hb hbc) | ((with_reducible refine ld_rxr w.heap.size _ _ hr ?_ ?_ ?_); exact rfl; exact rfl) | (go_at_call 21; (with_reducible refine (HP.out _).mono ?_); rintro e W ⟨rfl, hbc⟩; replace hr := hr.bl hbc; replace hq := hq.bl hbc; obtain ⟨NX, hNX⟩ : ∃ n, W.heap.size = n := ⟨_, rfl⟩; have lNX : w.heap.size + 2 ≤ NX := (by (have := hq.lt; omega)); replace hNX := hide hNX; replace hb := below_bl rfl hb hbc) | ((with_reducible refine al_fr NX ?_ ?_); exact hNX.out; intro W hx hb' hz2; replace hr := hr.bl (hNX.out ▸ hb'); replace hq := hq.bl (hNX.out ▸ hb'); replace hb := hb.trans (hb'.mono (by omega))) | ((with_reducible refine st_fr NX _ (putF (withOv s true).rx c) hx ?_ ?_ ?_); exact rfl; exact rfl; intro W hnew ho; replace hr := hr.only ho (by omega); replace hq := hq.only ho (by omega); replace hx := hnew; replace hb := ho.bel _ _ (by omega) hb) | ((with_reducible refine ld_fr NX (putF (withOv s true).rx c) hx ?_ ?_ ?_); exact rfl; exact rfl) | ((with_reducible refine st_rxr w.heap.size _ (putF (withOv s true).rx c) _ hr ?_ ?_ ?_); exact rfl; exact rfl; intro W hnew ho; replace hq := hq.only ho (by omega); replace hx := hx.only ho (by omega); replace hr := hnew; replace hb := ho.bel _ _ (by omega) hb) | ((with_reducible refine ld_ov w.heap.size _ _ hr ?_ ?_); exact rfl) | ((with_reducible refine st_ov w.heap.size _ true _ hr ?_ ?_ ?_); exact rfl; exact rfl; intro W hnew ho; replace hq := hq.only ho (by omega); replace hx := hx.only ho (by omega); replace hr := hnew; replace hb := ho.bel _ _ (by omega) hb) | ((with_reducible refine st_ur (w.heap.size + 1) _ (withRx (withOv s true) (putF (withOv s true).rx c)) hq ?_ ?_ ?_); exact rfl; exact rfl; intro W hnew ho; replace hr := hr.only ho (by omega); replace hx := hx.only ho (by omega); replace hq := hnew; replace hb := ho.bel _ _ (by omega) hb))
  refine bodyPost_ret (results_cell_row Try.results10 _ _ (w.heap.size + 1) _ _ _ _ rfl hq Try.underlying26 rfl size_ur) rfl ?_
  exact ⟨rfl, hb⟩

set_option maxHeartbeats 1000000 in
theorem rput_over_false (s : U) (ok : (withOv s false).Ok) (c : Nat) (hm : mayU (withOv s false) = true) (h0 : (withOv s false).rx.n = 16) (w : World) :
    Calls Try.prog 10 #[.agg (withOv s false).cells, .int .u8 (c : Nat)] w fun e w' => e = .returned (.agg (putV (withOv s false) c).cells) ∧ Below w.heap.size w w' := by
  have HV : putV (withOv s false) c = withOv (withOv s false) true := by unfold putV putS; rw [if_pos hm, if_pos h0]
  rw [HV]; clear HV
  have HP := hide (fun w => rput_full (withOv s false).rx h0 c w)
  clear h0
  have HC := hide (fun w => rcheck_ok (withOv s false) ok hm w)
  have hov : (withRx (withOv s false) (withOv s false).rx).ov = false := rfl
  go_enter Try.func10, Try.ntmps10
  go_wp2_with (first | ((with_reducible refine bx_ur w.heap.size (withOv s false) ?_ ?_ ?_); exact rfl; exact rfl; intro W hr hb hz) | ((with_reducible refine al_ur (w.heap.size + 1) ?_ ?_); exact hz.out; intro W hq hb' hz'; replace hr := hr.bl (hz.out ▸ hb'); replace hb := hb.trans (hb'.mono (by omega)); replace hz := hz') | ((with_reducible refine ld_ur w.heap.size _ hr ?_ ?_ ?_); exact rfl; exact rfl) | (go_at_call 17; (with_reducible refine (HC.out _).mono ?_); rintro e W ⟨rfl, hbc⟩; replace hr := hr.bl hbc; replace hq := hq.bl hbc; replace hb := below_bl rfl hb hbc) | ((with_reducible refine ld_rxr w.heap.size _ _ hr ?_ ?_ ?_); exact rfl; exact rfl) | (go_at_call 21; (with_reducible refine (HP.out _).mono ?_); rintro e W ⟨rfl, hbc⟩; replace hr := hr.bl hbc; replace hq := hq.bl hbc; obtain ⟨NX, hNX⟩ : ∃ n, W.heap.size = n := ⟨_, rfl⟩; have lNX : w.heap.size + 2 ≤ NX := (by (have := hq.lt; omega)); replace hNX := hide hNX; replace hb := below_bl rfl hb hbc) | ((with_reducible refine al_fr NX ?_ ?_); exact hNX.out; intro W hx hb' hz2; replace hr := hr.bl (hNX.out ▸ hb'); replace hq := hq.bl (hNX.out ▸ hb'); replace hb := hb.trans (hb'.mono (by omega))) | ((with_reducible refine st_fr NX _ (withOv s false).rx hx ?_ ?_ ?_); exact rfl; exact rfl; intro W hnew ho; replace hr := hr.only ho (by omega); replace hq := hq.only ho (by omega); replace hx := hnew; replace hb := ho.bel _ _ (by omega) hb) | ((with_reducible refine ld_fr NX (withOv s false).rx hx ?_ ?_ ?_); exact rfl; exact rfl) | ((with_reducible refine st_rxr w.heap.size _ (withOv s false).rx _ hr ?_ ?_ ?_); exact rfl; exact rfl; intro W hnew ho; replace hq := hq.only ho (by omega); replace hx := hx.only ho (by omega); replace hr := hnew; replace hb := ho.bel _ _ (by omega) hb) | ((with_reducible refine ld_ov w.heap.size _ _ hr ?_ ?_); exact rfl) | ((with_reducible refine st_ov w.heap.size _ true _ hr ?_ ?_ ?_); exact rfl; exact rfl; intro W hnew ho; replace hq := hq.only ho (by omega); replace hx := hx.only ho (by omega); replace hr := hnew; replace hb := ho.bel _ _ (by omega) hb) | ((with_reducible refine st_ur (w.heap.size + 1) _ (withOv (withOv s false) true) hq ?_ ?_ ?_); exact rfl; exact rfl; intro W hnew ho; replace hr := hr.only ho (by omega); replace hx := hx.only ho (by omega); replace hq := hnew; replace hb := ho.bel _ _ (by omega) hb))
  refine bodyPost_ret (results_cell_row Try.results10 _ _ (w.heap.size + 1) _ _ _ _ rfl hq Try.underlying26 rfl size_ur) rfl ?_
  exact ⟨rfl, hb⟩

set_option maxHeartbeats 1000000 in
theorem rput_in_false (s : U) (ok : (withOv s false).Ok) (c : Nat) (hm : mayU (withOv s false) = true) (h0 : 0 ≤ (withOv s false).rx.n) (h1 : (withOv s false).rx.n < 16) (w : World) :
    Calls Try.prog 10 #[.agg (withOv s false).cells, .int .u8 (c : Nat)] w fun e w' => e = .returned (.agg (putV (withOv s false) c).cells) ∧ Below w.heap.size w w' := by
  have HV : putV (withOv s false) c = withRx (withOv s false) (putF (withOv s false).rx c) := by unfold putV putS; rw [if_pos hm, if_neg (by omega)]
  rw [HV]; clear HV
  have HP := hide (fun w => rput_room (withOv s false).rx (withOv s false).rx.n.toNat (by omega) (by omega) c w)
  clear h0 h1
  have HC := hide (fun w => rcheck_ok (withOv s false) ok hm w)
  have hov : (withRx (withOv s false) (putF (withOv s false).rx c)).ov = false := rfl
  go_enter Try.func10, Try.ntmps10
  go_wp2_with (first | ((with_reducible refine bx_ur w.heap.size (withOv s false) ?_ ?_ ?_); exact rfl; exact rfl; intro W hr hb hz) | ((with_reducible refine al_ur (w.heap.size + 1) ?_ ?_); exact hz.out; intro W hq hb' hz'; replace hr := hr.bl (hz.out ▸ hb'); replace hb := hb.trans (hb'.mono (by omega)); replace hz := hz') | ((with_reducible refine ld_ur w.heap.size _ hr ?_ ?_ ?_); exact rfl; exact rfl) | (go_at_call 17; (with_reducible refine (HC.out _).mono ?_); rintro e W ⟨rfl, hbc⟩; replace hr := hr.bl hbc; replace hq := hq.bl hbc; replace hb := below_bl rfl hb hbc) | ((with_reducible refine ld_rxr w.heap.size _ _ hr ?_ ?_ ?_); exact rfl; exact rfl) | (go_at_call 21; (with_reducible refine (HP.out _).mono ?_); rintro e W ⟨rfl, hbc⟩; replace hr := hr.bl hbc; replace hq := hq.bl hbc; obtain ⟨NX, hNX⟩ : ∃ n, W.heap.size = n := ⟨_, rfl⟩; have lNX : w.heap.size + 2 ≤ NX := (by (have := hq.lt; omega)); replace hNX := hide hNX; replace hb := below_bl rfl hb hbc) | ((with_reducible refine al_fr NX ?_ ?_); exact hNX.out; intro W hx hb' hz2; replace hr := hr.bl (hNX.out ▸ hb'); replace hq := hq.bl (hNX.out ▸ hb'); replace hb := hb.trans (hb'.mono (by omega))) | ((with_reducible refine st_fr NX _ (putF (withOv s false).rx c) hx ?_ ?_ ?_); exact rfl; exact rfl; intro W hnew ho; replace hr := hr.only ho (by omega); replace hq := hq.only ho (by omega); replace hx := hnew; replace hb := ho.bel _ _ (by omega) hb) | ((with_reducible refine ld_fr NX (putF (withOv s false).rx c) hx ?_ ?_ ?_); exact rfl; exact rfl) | ((with_reducible refine st_rxr w.heap.size _ (putF (withOv s false).rx c) _ hr ?_ ?_ ?_); exact rfl; exact rfl; intro W hnew ho; replace hq := hq.only ho (by omega); replace hx := hx.only ho (by omega); replace hr := hnew; replace hb := ho.bel _ _ (by omega) hb) | ((with_reducible refine ld_ov w.heap.size _ _ hr ?_ ?_); exact rfl) | ((with_reducible refine st_ov w.heap.size _ false _ hr ?_ ?_ ?_); exact rfl; exact rfl; intro W hnew ho; replace hq := hq.only ho (by omega); replace hx := hx.only ho (by omega); replace hr := hnew; replace hb := ho.bel _ _ (by omega) hb) | ((with_reducible refine st_ur (w.heap.size + 1) _ (withRx (withOv s false) (putF (withOv s false).rx c)) hq ?_ ?_ ?_); exact rfl; exact rfl; intro W hnew ho; replace hr := hr.only ho (by omega); replace hx := hx.only ho (by omega); replace hq := hnew; replace hb := ho.bel _ _ (by omega) hb))
  refine bodyPost_ret (results_cell_row Try.results10 _ _ (w.heap.size + 1) _ _ _ _ rfl hq Try.underlying26 rfl size_ur) rfl ?_
  exact ⟨rfl, hb⟩

theorem ruput_any (s : U) (ok : s.Ok) (c : Nat) (w : World) :
    Calls Try.prog 10 #[.agg s.cells, .int .u8 (c : Nat)] w fun e w' => e = .returned (.agg (putV s c).cells) ∧ Below w.heap.size w w' := by
  cases hm : mayU s with
  | false => exact rput_no s ok c hm w
  | true =>
    have hf := ((mayU_iff s).1 hm).rx
    have h0 := mayF.n0 hf
    have h1 := mayF.n16 hf
    obtain ⟨b, hb⟩ : ∃ b, s.ov = b := ⟨_, rfl⟩
    obtain ⟨s0, rfl⟩ : ∃ s0, s = withOv s0 b := ⟨s, by subst hb; rfl⟩
    clear hb
    by_cases h : (withOv s0 b).rx.n = 16
    · cases b with
      | true => exact rput_over_true s0 ok c hm h w
      | false => exact rput_over_false s0 ok c hm h w
    · cases b with
      | true => exact rput_in_true s0 ok c hm h0 (by omega) w
      | false => exact rput_in_false s0 ok c hm h0 (by omega) w
end Go.Proofs.Ythopfecjnbfnmaa
