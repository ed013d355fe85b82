/-
  What the document's Write answers.
-/
import Derived.Test.YthopfecjnbfnmaaDoorUaRCheck
namespace Go.Proofs.YthopfecjnbfnmaaDoor
open Go.RowKit
set_option linter.unusedVariables false

set_option maxHeartbeats 1000000 in
theorem rwrite_no (s : U) (ok : s.Ok) (v : Nat) (hv : v < 256) (a : Nat) (hm : mayU s = false) (w : World) :
    Calls Tryd.prog 15 #[.agg s.cells, .int .u32 (a : Nat), .int .u8 (v : Nat)] w fun e w' => e = .returned (.tuple #[.agg (writeV s a v).1.cells, .int .i64 ((writeV s a v).2 : Nat)]) ∧ Below w.heap.size w w' := by
  have HV : writeV s a v = (zeroU, 1) := by unfold writeV; rw [hm, if_neg (by decide)]
  rw [HV]; clear HV
  have HC := hide (fun w => rcheck_no s ok hm w)
  go_enter Tryd.func15, Tryd.ntmps15
  go_wp2_with (first | ((with_reducible refine bx_ur w.heap.size s ?_ ?_ ?_); exact rfl; exact rfl; intro W hr hb hz) | ((with_reducible refine al_ur (w.heap.size + 1) ?_ ?_); exact hz.out; intro W hq hb' hz'; replace hr := hr.bl (hz.out ▸ hb'); replace hb := hb.trans (hb'.mono (by omega)); replace hz := hz') | (go_at_call 8; (with_reducible refine (HC.out _).mono ?_); rintro e W ⟨rfl, hbc⟩; replace hr := hr.bl hbc; replace hq := hq.bl hbc; replace hb := below_bl rfl hb hbc) | ((with_reducible refine ld_ur w.heap.size _ hr ?_ ?_ ?_); exact rfl; exact rfl) | ((with_reducible refine ld_lc w.heap.size _ _ hr ?_ ?_); exact rfl) | ((with_reducible refine st_ur (w.heap.size + 1) _ zeroU hq ?_ ?_ ?_); exact rfl; exact rfl; intro W hnew ho; replace hr := hr.only ho (by omega); replace hq := hnew; replace hb := ho.bel _ _ (by omega) hb))
  refine bodyPost_ret (results_cell_one Tryd.results15 _ _ (w.heap.size + 1) _ _ _ rfl hq Tryd.underlying26 rfl size_ur) rfl ?_
  exact ⟨rfl, hb⟩

set_option maxHeartbeats 1000000 in
theorem rwrite_0t (s : U) (ok : s.Ok) (v : Nat) (hv : v < 256) (hm : mayU s = true) (hd : dlB s = true) (w : World) :
    Calls Tryd.prog 15 #[.agg s.cells, .int .u32 ((0 : Nat) : Int), .int .u8 (v : Nat)] w fun e w' => e = .returned (.tuple #[.agg (writeV s 0 v).1.cells, .int .i64 ((writeV s 0 v).2 : Nat)]) ∧ Below w.heap.size w w' := by
  rw [show (((0 : Nat) : Int)) = 0 from rfl]
  have HV : writeV s 0 v = (withDl s v, 0) := by unfold writeV writeS; rw [if_pos hm, if_pos rfl]; unfold dataW; rw [if_pos hd]
  rw [HV]; clear HV
  have HC := hide (fun w => rcheck_ok s ok hm w)
  have d1 : (128 : Int) ≤ (s.lc : Int) := by unfold dlB at hd; have := of_decide_eq_true hd; omega
  go_enter Tryd.func15, Tryd.ntmps15
  go_wp2_with (first | ((with_reducible refine bx_ur w.heap.size s ?_ ?_ ?_); exact rfl; exact rfl; intro W hr hb hz) | ((with_reducible refine al_ur (w.heap.size + 1) ?_ ?_); exact hz.out; intro W hq hb' hz'; replace hr := hr.bl (hz.out ▸ hb'); replace hb := hb.trans (hb'.mono (by omega)); replace hz := hz') | (go_at_call 8; (with_reducible refine (HC.out _).mono ?_); rintro e W ⟨rfl, hbc⟩; replace hr := hr.bl hbc; replace hq := hq.bl hbc; replace hb := below_bl rfl hb hbc) | ((with_reducible refine ld_ur w.heap.size _ hr ?_ ?_ ?_); exact rfl; exact rfl) | ((with_reducible refine ld_lc w.heap.size _ _ hr ?_ ?_); exact rfl) | ((with_reducible refine st_dl w.heap.size _ v _ hr ?_ ?_ ?_); exact rfl; exact rfl; intro W hnew ho; replace hq := hq.only ho (by omega); replace hr := hnew; replace hb := ho.bel _ _ (by omega) hb) | ((with_reducible refine st_ur (w.heap.size + 1) _ (withDl s v) hq ?_ ?_ ?_); exact rfl; exact rfl; intro W hnew ho; replace hr := hr.only ho (by omega); replace hq := hnew; replace hb := ho.bel _ _ (by omega) hb))
  refine bodyPost_ret (results_cell_one Tryd.results15 _ _ (w.heap.size + 1) _ _ _ rfl hq Tryd.underlying26 rfl size_ur) rfl ?_
  exact ⟨rfl, hb⟩

set_option maxHeartbeats 1000000 in
theorem rwrite_0p (s : U) (ok : s.Ok) (v : Nat) (hv : v < 256) (hm : mayU s = true) (hd : dlB s = false) (h0 : 0 ≤ s.tx.n) (h1 : s.tx.n < 16) (w : World) :
    Calls Tryd.prog 15 #[.agg s.cells, .int .u32 ((0 : Nat) : Int), .int .u8 (v : Nat)] w fun e w' => e = .returned (.tuple #[.agg (writeV s 0 v).1.cells, .int .i64 ((writeV s 0 v).2 : Nat)]) ∧ Below w.heap.size w w' := by
  rw [show (((0 : Nat) : Int)) = 0 from rfl]
  have HV : writeV s 0 v = (withTx s (putF s.tx v), 0) := by unfold writeV writeS; rw [if_pos hm, if_pos rfl]; unfold dataW; rw [hd, if_neg (by decide)]; rw [if_neg (by omega)]
  rw [HV]; clear HV
  have HC := hide (fun w => rcheck_ok s ok hm w)
  have d1 : decide ((128 : Int) ≤ (s.lc : Int)) = false := by unfold dlB at hd; have := of_decide_eq_false hd; simp; omega
  have d2 : decide (128 ≤ s.lc) = false := hd
  have HP := hide (fun w => rput_room s.tx s.tx.n.toNat (by omega) (by omega) v w)
  clear h0 h1
  go_enter Tryd.func15, Tryd.ntmps15
  go_wp2_with (first | ((with_reducible refine bx_ur w.heap.size s ?_ ?_ ?_); exact rfl; exact rfl; intro W hr hb hz) | ((with_reducible refine al_ur (w.heap.size + 1) ?_ ?_); exact hz.out; intro W hq hb' hz'; replace hr := hr.bl (hz.out ▸ hb'); replace hb := hb.trans (hb'.mono (by omega)); replace hz := hz') | (go_at_call 8; (with_reducible refine (HC.out _).mono ?_); rintro e W ⟨rfl, hbc⟩; replace hr := hr.bl hbc; replace hq := hq.bl hbc; replace hb := below_bl rfl hb hbc) | ((with_reducible refine ld_ur w.heap.size _ hr ?_ ?_ ?_); exact rfl; exact rfl) | ((with_reducible refine ld_lc w.heap.size _ _ hr ?_ ?_); exact rfl) | ((with_reducible refine ld_txr w.heap.size _ _ hr ?_ ?_ ?_); exact rfl; exact rfl) | (go_at_call 28; (with_reducible refine (HP.out _).mono ?_); rintro e W ⟨rfl, hbc⟩; replace hr := hr.bl hbc; replace hq := hq.bl hbc; replace hb := below_bl rfl hb hbc) | ((with_reducible refine st_txr w.heap.size _ (putF s.tx v) _ hr ?_ ?_ ?_); exact rfl; exact rfl; intro W hnew ho; replace hq := hq.only ho (by omega); replace hr := hnew; replace hb := ho.bel _ _ (by omega) hb) | ((with_reducible refine st_ur (w.heap.size + 1) _ (withTx s (putF s.tx v)) hq ?_ ?_ ?_); exact rfl; exact rfl; intro W hnew ho; replace hr := hr.only ho (by omega); replace hq := hnew; replace hb := ho.bel _ _ (by omega) hb))
  refine bodyPost_ret (results_cell_one Tryd.results15 _ _ (w.heap.size + 1) _ _ _ rfl hq Tryd.underlying26 rfl size_ur) rfl ?_
  exact ⟨rfl, hb⟩

set_option maxHeartbeats 1000000 in
theorem rwrite_0f (s : U) (ok : s.Ok) (v : Nat) (hv : v < 256) (hm : mayU s = true) (hd : dlB s = false) (h0 : s.tx.n = 16) (w : World) :
    Calls Tryd.prog 15 #[.agg s.cells, .int .u32 ((0 : Nat) : Int), .int .u8 (v : Nat)] w fun e w' => e = .returned (.tuple #[.agg (writeV s 0 v).1.cells, .int .i64 ((writeV s 0 v).2 : Nat)]) ∧ Below w.heap.size w w' := by
  rw [show (((0 : Nat) : Int)) = 0 from rfl]
  have HV : writeV s 0 v = (s, 0) := by unfold writeV writeS; rw [if_pos hm, if_pos rfl]; unfold dataW; rw [hd, if_neg (by decide)]; rw [if_pos h0]
  rw [HV]; clear HV
  have HC := hide (fun w => rcheck_ok s ok hm w)
  have d1 : decide ((128 : Int) ≤ (s.lc : Int)) = false := by unfold dlB at hd; have := of_decide_eq_false hd; simp; omega
  have d2 : decide (128 ≤ s.lc) = false := hd
  have HP := hide (fun w => rput_full s.tx h0 v w)
  clear h0
  go_enter Tryd.func15, Tryd.ntmps15
  go_wp2_with (first | ((with_reducible refine bx_ur w.heap.size s ?_ ?_ ?_); exact rfl; exact rfl; intro W hr hb hz) | ((with_reducible refine al_ur (w.heap.size + 1) ?_ ?_); exact hz.out; intro W hq hb' hz'; replace hr := hr.bl (hz.out ▸ hb'); replace hb := hb.trans (hb'.mono (by omega)); replace hz := hz') | (go_at_call 8; (with_reducible refine (HC.out _).mono ?_); rintro e W ⟨rfl, hbc⟩; replace hr := hr.bl hbc; replace hq := hq.bl hbc; replace hb := below_bl rfl hb hbc) | ((with_reducible refine ld_ur w.heap.size _ hr ?_ ?_ ?_); exact rfl; exact rfl) | ((with_reducible refine ld_lc w.heap.size _ _ hr ?_ ?_); exact rfl) | ((with_reducible refine ld_txr w.heap.size _ _ hr ?_ ?_ ?_); exact rfl; exact rfl) | (go_at_call 28; (with_reducible refine (HP.out _).mono ?_); rintro e W ⟨rfl, hbc⟩; replace hr := hr.bl hbc; replace hq := hq.bl hbc; replace hb := below_bl rfl hb hbc) | ((with_reducible refine st_txr w.heap.size _ s.tx _ hr ?_ ?_ ?_); exact rfl; exact rfl; intro W hnew ho; replace hq := hq.only ho (by omega); replace hr := hnew; replace hb := ho.bel _ _ (by omega) hb) | ((with_reducible refine st_ur (w.heap.size + 1) _ (s) hq ?_ ?_ ?_); exact rfl; exact rfl; intro W hnew ho; replace hr := hr.only ho (by omega); replace hq := hnew; replace hb := ho.bel _ _ (by omega) hb))
  refine bodyPost_ret (results_cell_one Tryd.results15 _ _ (w.heap.size + 1) _ _ _ rfl hq Tryd.underlying26 rfl size_ur) rfl ?_
  exact ⟨rfl, hb⟩

set_option maxHeartbeats 1000000 in
theorem rwrite_1t (s : U) (ok : s.Ok) (v : Nat) (hv : v < 256) (hm : mayU s = true) (hd : dlB s = true) (w : World) :
    Calls Tryd.prog 15 #[.agg s.cells, .int .u32 ((1 : Nat) : Int), .int .u8 (v : Nat)] w fun e w' => e = .returned (.tuple #[.agg (writeV s 1 v).1.cells, .int .i64 ((writeV s 1 v).2 : Nat)]) ∧ Below w.heap.size w w' := by
  rw [show (((1 : Nat) : Int)) = 1 from rfl]
  have HV : writeV s 1 v = (withDm s v, 0) := by unfold writeV writeS; rw [if_pos hm, if_neg (by decide), if_pos rfl]; rw [if_pos hd]
  rw [HV]; clear HV
  have HC := hide (fun w => rcheck_ok s ok hm w)
  have d1 : (128 : Int) ≤ (s.lc : Int) := by unfold dlB at hd; have := of_decide_eq_true hd; omega
  go_enter Tryd.func15, Tryd.ntmps15
  go_wp2_with (first | ((with_reducible refine bx_ur w.heap.size s ?_ ?_ ?_); exact rfl; exact rfl; intro W hr hb hz) | ((with_reducible refine al_ur (w.heap.size + 1) ?_ ?_); exact hz.out; intro W hq hb' hz'; replace hr := hr.bl (hz.out ▸ hb'); replace hb := hb.trans (hb'.mono (by omega)); replace hz := hz') | (go_at_call 8; (with_reducible refine (HC.out _).mono ?_); rintro e W ⟨rfl, hbc⟩; replace hr := hr.bl hbc; replace hq := hq.bl hbc; replace hb := below_bl rfl hb hbc) | ((with_reducible refine ld_ur w.heap.size _ hr ?_ ?_ ?_); exact rfl; exact rfl) | ((with_reducible refine ld_lc w.heap.size _ _ hr ?_ ?_); exact rfl) | ((with_reducible refine st_dm w.heap.size _ v _ hr ?_ ?_ ?_); exact rfl; exact rfl; intro W hnew ho; replace hq := hq.only ho (by omega); replace hr := hnew; replace hb := ho.bel _ _ (by omega) hb) | ((with_reducible refine st_ur (w.heap.size + 1) _ (withDm s v) hq ?_ ?_ ?_); exact rfl; exact rfl; intro W hnew ho; replace hr := hr.only ho (by omega); replace hq := hnew; replace hb := ho.bel _ _ (by omega) hb))
  refine bodyPost_ret (results_cell_one Tryd.results15 _ _ (w.heap.size + 1) _ _ _ rfl hq Tryd.underlying26 rfl size_ur) rfl ?_
  exact ⟨rfl, hb⟩

set_option maxHeartbeats 1000000 in
theorem rwrite_1f (s : U) (ok : s.Ok) (v : Nat) (hv : v < 256) (hm : mayU s = true) (hd : dlB s = false) (w : World) :
    Calls Tryd.prog 15 #[.agg s.cells, .int .u32 ((1 : Nat) : Int), .int .u8 (v : Nat)] w fun e w' => e = .returned (.tuple #[.agg (writeV s 1 v).1.cells, .int .i64 ((writeV s 1 v).2 : Nat)]) ∧ Below w.heap.size w w' := by
  rw [show (((1 : Nat) : Int)) = 1 from rfl]
  have HV : writeV s 1 v = (withIe s (v % 8), 0) := by unfold writeV writeS; rw [if_pos hm, if_neg (by decide), if_pos rfl]; rw [hd, if_neg (by decide)]
  rw [HV]; clear HV
  have HC := hide (fun w => rcheck_ok s ok hm w)
  have d1 : decide ((128 : Int) ≤ (s.lc : Int)) = false := by unfold dlB at hd; have := of_decide_eq_false hd; simp; omega
  have d2 : decide (128 ≤ s.lc) = false := hd
  go_enter Tryd.func15, Tryd.ntmps15
  go_wp2_with (first | ((with_reducible refine bx_ur w.heap.size s ?_ ?_ ?_); exact rfl; exact rfl; intro W hr hb hz) | ((with_reducible refine al_ur (w.heap.size + 1) ?_ ?_); exact hz.out; intro W hq hb' hz'; replace hr := hr.bl (hz.out ▸ hb'); replace hb := hb.trans (hb'.mono (by omega)); replace hz := hz') | (go_at_call 8; (with_reducible refine (HC.out _).mono ?_); rintro e W ⟨rfl, hbc⟩; replace hr := hr.bl hbc; replace hq := hq.bl hbc; replace hb := below_bl rfl hb hbc) | ((with_reducible refine ld_ur w.heap.size _ hr ?_ ?_ ?_); exact rfl; exact rfl) | ((with_reducible refine ld_lc w.heap.size _ _ hr ?_ ?_); exact rfl) | ((with_reducible refine st_ie w.heap.size _ (v % 8) _ hr ?_ ?_ ?_); exact rfl; exact rfl; intro W hnew ho; replace hq := hq.only ho (by omega); replace hr := hnew; replace hb := ho.bel _ _ (by omega) hb) | ((with_reducible refine st_ur (w.heap.size + 1) _ (withIe s (v % 8)) hq ?_ ?_ ?_); exact rfl; exact rfl; intro W hnew ho; replace hr := hr.only ho (by omega); replace hq := hnew; replace hb := ho.bel _ _ (by omega) hb))
  refine bodyPost_ret (results_cell_one Tryd.results15 _ _ (w.heap.size + 1) _ _ _ rfl hq Tryd.underlying26 rfl size_ur) rfl ?_
  exact ⟨rfl, hb⟩

set_option maxHeartbeats 1000000 in
theorem rwrite_3t (s : U) (ok : s.Ok) (v : Nat) (hv : v < 256) (hm : mayU s = true) (hd : dlB s = true) (w : World) :
    Calls Tryd.prog 15 #[.agg s.cells, .int .u32 ((3 : Nat) : Int), .int .u8 (v : Nat)] w fun e w' => e = .returned (.tuple #[.agg (writeV s 3 v).1.cells, .int .i64 ((writeV s 3 v).2 : Nat)]) ∧ Below w.heap.size w w' := by
  rw [show (((3 : Nat) : Int)) = 3 from rfl]
  have HV : writeV s 3 v = (withLc s v, 0) := by unfold writeV writeS; rw [if_pos hm, if_neg (by decide), if_neg (by decide), if_neg (by decide), if_pos rfl]
  rw [HV]; clear HV
  have HC := hide (fun w => rcheck_ok s ok hm w)
  have d1 : (128 : Int) ≤ (s.lc : Int) := by unfold dlB at hd; have := of_decide_eq_true hd; omega
  go_enter Tryd.func15, Tryd.ntmps15
  go_wp2_with (first | ((with_reducible refine bx_ur w.heap.size s ?_ ?_ ?_); exact rfl; exact rfl; intro W hr hb hz) | ((with_reducible refine al_ur (w.heap.size + 1) ?_ ?_); exact hz.out; intro W hq hb' hz'; replace hr := hr.bl (hz.out ▸ hb'); replace hb := hb.trans (hb'.mono (by omega)); replace hz := hz') | (go_at_call 8; (with_reducible refine (HC.out _).mono ?_); rintro e W ⟨rfl, hbc⟩; replace hr := hr.bl hbc; replace hq := hq.bl hbc; replace hb := below_bl rfl hb hbc) | ((with_reducible refine ld_ur w.heap.size _ hr ?_ ?_ ?_); exact rfl; exact rfl) | ((with_reducible refine ld_lc w.heap.size _ _ hr ?_ ?_); exact rfl) | ((with_reducible refine st_lc w.heap.size _ v _ hr ?_ ?_ ?_); exact rfl; exact rfl; intro W hnew ho; replace hq := hq.only ho (by omega); replace hr := hnew; replace hb := ho.bel _ _ (by omega) hb) | ((with_reducible refine st_ur (w.heap.size + 1) _ (withLc s v) hq ?_ ?_ ?_); exact rfl; exact rfl; intro W hnew ho; replace hr := hr.only ho (by omega); replace hq := hnew; replace hb := ho.bel _ _ (by omega) hb))
  refine bodyPost_ret (results_cell_one Tryd.results15 _ _ (w.heap.size + 1) _ _ _ rfl hq Tryd.underlying26 rfl size_ur) rfl ?_
  exact ⟨rfl, hb⟩

set_option maxHeartbeats 1000000 in
theorem rwrite_4t (s : U) (ok : s.Ok) (v : Nat) (hv : v < 256) (hm : mayU s = true) (hd : dlB s = true) (w : World) :
    Calls Tryd.prog 15 #[.agg s.cells, .int .u32 ((4 : Nat) : Int), .int .u8 (v : Nat)] w fun e w' => e = .returned (.tuple #[.agg (writeV s 4 v).1.cells, .int .i64 ((writeV s 4 v).2 : Nat)]) ∧ Below w.heap.size w w' := by
  rw [show (((4 : Nat) : Int)) = 4 from rfl]
  have HV : writeV s 4 v = (withMc s (v % 32), 0) := by unfold writeV writeS; rw [if_pos hm, if_neg (by decide), if_neg (by decide), if_neg (by decide), if_neg (by decide), if_pos rfl]
  rw [HV]; clear HV
  have HC := hide (fun w => rcheck_ok s ok hm w)
  have d1 : (128 : Int) ≤ (s.lc : Int) := by unfold dlB at hd; have := of_decide_eq_true hd; omega
  go_enter Tryd.func15, Tryd.ntmps15
  go_wp2_with (first | ((with_reducible refine bx_ur w.heap.size s ?_ ?_ ?_); exact rfl; exact rfl; intro W hr hb hz) | ((with_reducible refine al_ur (w.heap.size + 1) ?_ ?_); exact hz.out; intro W hq hb' hz'; replace hr := hr.bl (hz.out ▸ hb'); replace hb := hb.trans (hb'.mono (by omega)); replace hz := hz') | (go_at_call 8; (with_reducible refine (HC.out _).mono ?_); rintro e W ⟨rfl, hbc⟩; replace hr := hr.bl hbc; replace hq := hq.bl hbc; replace hb := below_bl rfl hb hbc) | ((with_reducible refine ld_ur w.heap.size _ hr ?_ ?_ ?_); exact rfl; exact rfl) | ((with_reducible refine ld_lc w.heap.size _ _ hr ?_ ?_); exact rfl) | ((with_reducible refine st_mc w.heap.size _ (v % 32) _ hr ?_ ?_ ?_); exact rfl; exact rfl; intro W hnew ho; replace hq := hq.only ho (by omega); replace hr := hnew; replace hb := ho.bel _ _ (by omega) hb) | ((with_reducible refine st_ur (w.heap.size + 1) _ (withMc s (v % 32)) hq ?_ ?_ ?_); exact rfl; exact rfl; intro W hnew ho; replace hr := hr.only ho (by omega); replace hq := hnew; replace hb := ho.bel _ _ (by omega) hb))
  refine bodyPost_ret (results_cell_one Tryd.results15 _ _ (w.heap.size + 1) _ _ _ rfl hq Tryd.underlying26 rfl size_ur) rfl ?_
  exact ⟨rfl, hb⟩

set_option maxHeartbeats 1000000 in
theorem rwrite_7t (s : U) (ok : s.Ok) (v : Nat) (hv : v < 256) (hm : mayU s = true) (hd : dlB s = true) (w : World) :
    Calls Tryd.prog 15 #[.agg s.cells, .int .u32 ((7 : Nat) : Int), .int .u8 (v : Nat)] w fun e w' => e = .returned (.tuple #[.agg (writeV s 7 v).1.cells, .int .i64 ((writeV s 7 v).2 : Nat)]) ∧ Below w.heap.size w w' := by
  rw [show (((7 : Nat) : Int)) = 7 from rfl]
  have HV : writeV s 7 v = (withSc s v, 0) := by unfold writeV writeS; rw [if_pos hm, if_neg (by decide), if_neg (by decide), if_neg (by decide), if_neg (by decide), if_neg (by decide), if_neg (by decide), if_neg (by decide), if_pos rfl]
  rw [HV]; clear HV
  have HC := hide (fun w => rcheck_ok s ok hm w)
  have d1 : (128 : Int) ≤ (s.lc : Int) := by unfold dlB at hd; have := of_decide_eq_true hd; omega
  go_enter Tryd.func15, Tryd.ntmps15
  go_wp2_with (first | ((with_reducible refine bx_ur w.heap.size s ?_ ?_ ?_); exact rfl; exact rfl; intro W hr hb hz) | ((with_reducible refine al_ur (w.heap.size + 1) ?_ ?_); exact hz.out; intro W hq hb' hz'; replace hr := hr.bl (hz.out ▸ hb'); replace hb := hb.trans (hb'.mono (by omega)); replace hz := hz') | (go_at_call 8; (with_reducible refine (HC.out _).mono ?_); rintro e W ⟨rfl, hbc⟩; replace hr := hr.bl hbc; replace hq := hq.bl hbc; replace hb := below_bl rfl hb hbc) | ((with_reducible refine ld_ur w.heap.size _ hr ?_ ?_ ?_); exact rfl; exact rfl) | ((with_reducible refine ld_lc w.heap.size _ _ hr ?_ ?_); exact rfl) | ((with_reducible refine st_sc w.heap.size _ v _ hr ?_ ?_ ?_); exact rfl; exact rfl; intro W hnew ho; replace hq := hq.only ho (by omega); replace hr := hnew; replace hb := ho.bel _ _ (by omega) hb) | ((with_reducible refine st_ur (w.heap.size + 1) _ (withSc s v) hq ?_ ?_ ?_); exact rfl; exact rfl; intro W hnew ho; replace hr := hr.only ho (by omega); replace hq := hnew; replace hb := ho.bel _ _ (by omega) hb))
  refine bodyPost_ret (results_cell_one Tryd.results15 _ _ (w.heap.size + 1) _ _ _ rfl hq Tryd.underlying26 rfl size_ur) rfl ?_
  exact ⟨rfl, hb⟩

set_option maxHeartbeats 1000000 in
theorem rwrite_5t (s : U) (ok : s.Ok) (v : Nat) (hv : v < 256) (hm : mayU s = true) (hd : dlB s = true) (w : World) :
    Calls Tryd.prog 15 #[.agg s.cells, .int .u32 ((5 : Nat) : Int), .int .u8 (v : Nat)] w fun e w' => e = .returned (.tuple #[.agg (writeV s 5 v).1.cells, .int .i64 ((writeV s 5 v).2 : Nat)]) ∧ Below w.heap.size w w' := by
  rw [show (((5 : Nat) : Int)) = 5 from rfl]
  have HV : writeV s 5 v = (s, 0) := by unfold writeV writeS; rw [if_pos hm, if_neg (by decide), if_neg (by decide), if_neg (by decide), if_neg (by decide), if_neg (by decide), if_pos rfl]
  rw [HV]; clear HV
  have HC := hide (fun w => rcheck_ok s ok hm w)
  have d1 : (128 : Int) ≤ (s.lc : Int) := by unfold dlB at hd; have := of_decide_eq_true hd; omega
  go_enter Tryd.func15, Tryd.ntmps15
  go_wp2_with (first | ((with_reducible refine bx_ur w.heap.size s ?_ ?_ ?_); exact rfl; exact rfl; intro W hr hb hz) | ((with_reducible refine al_ur (w.heap.size + 1) ?_ ?_); exact hz.out; intro W hq hb' hz'; replace hr := hr.bl (hz.out ▸ hb'); replace hb := hb.trans (hb'.mono (by omega)); replace hz := hz') | (go_at_call 8; (with_reducible refine (HC.out _).mono ?_); rintro e W ⟨rfl, hbc⟩; replace hr := hr.bl hbc; replace hq := hq.bl hbc; replace hb := below_bl rfl hb hbc) | ((with_reducible refine ld_ur w.heap.size _ hr ?_ ?_ ?_); exact rfl; exact rfl) | ((with_reducible refine ld_lc w.heap.size _ _ hr ?_ ?_); exact rfl) | ((with_reducible refine st_ur (w.heap.size + 1) _ (s) hq ?_ ?_ ?_); exact rfl; exact rfl; intro W hnew ho; replace hr := hr.only ho (by omega); replace hq := hnew; replace hb := ho.bel _ _ (by omega) hb))
  refine bodyPost_ret (results_cell_one Tryd.results15 _ _ (w.heap.size + 1) _ _ _ rfl hq Tryd.underlying26 rfl size_ur) rfl ?_
  exact ⟨rfl, hb⟩

set_option maxHeartbeats 1000000 in
theorem rwrite_6t (s : U) (ok : s.Ok) (v : Nat) (hv : v < 256) (hm : mayU s = true) (hd : dlB s = true) (w : World) :
    Calls Tryd.prog 15 #[.agg s.cells, .int .u32 ((6 : Nat) : Int), .int .u8 (v : Nat)] w fun e w' => e = .returned (.tuple #[.agg (writeV s 6 v).1.cells, .int .i64 ((writeV s 6 v).2 : Nat)]) ∧ Below w.heap.size w w' := by
  rw [show (((6 : Nat) : Int)) = 6 from rfl]
  have HV : writeV s 6 v = (s, 0) := by unfold writeV writeS; rw [if_pos hm, if_neg (by decide), if_neg (by decide), if_neg (by decide), if_neg (by decide), if_neg (by decide), if_neg (by decide), if_pos rfl]
  rw [HV]; clear HV
  have HC := hide (fun w => rcheck_ok s ok hm w)
  have d1 : (128 : Int) ≤ (s.lc : Int) := by unfold dlB at hd; have := of_decide_eq_true hd; omega
  go_enter Tryd.func15, Tryd.ntmps15
  go_wp2_with (first | ((with_reducible refine bx_ur w.heap.size s ?_ ?_ ?_); exact rfl; exact rfl; intro W hr hb hz) | ((with_reducible refine al_ur (w.heap.size + 1) ?_ ?_); exact hz.out; intro W hq hb' hz'; replace hr := hr.bl (hz.out ▸ hb'); replace hb := hb.trans (hb'.mono (by omega)); replace hz := hz') | (go_at_call 8; (with_reducible refine (HC.out _).mono ?_); rintro e W ⟨rfl, hbc⟩; replace hr := hr.bl hbc; replace hq := hq.bl hbc; replace hb := below_bl rfl hb hbc) | ((with_reducible refine ld_ur w.heap.size _ hr ?_ ?_ ?_); exact rfl; exact rfl) | ((with_reducible refine ld_lc w.heap.size _ _ hr ?_ ?_); exact rfl) | ((with_reducible refine st_ur (w.heap.size + 1) _ (s) hq ?_ ?_ ?_); exact rfl; exact rfl; intro W hnew ho; replace hr := hr.only ho (by omega); replace hq := hnew; replace hb := ho.bel _ _ (by omega) hb))
  refine bodyPost_ret (results_cell_one Tryd.results15 _ _ (w.heap.size + 1) _ _ _ rfl hq Tryd.underlying26 rfl size_ur) rfl ?_
  exact ⟨rfl, hb⟩

set_option maxHeartbeats 1000000 in
theorem rwrite_2t0 (s : U) (ok : s.Ok) (v : Nat) (hv : v < 256) (hm : mayU s = true) (hd : dlB s = true) (h0 : decide (v / 2 % 2 = 1) = false) (h1 : decide (v / 4 % 2 = 1) = false) (w : World) :
    Calls Tryd.prog 15 #[.agg s.cells, .int .u32 ((2 : Nat) : Int), .int .u8 (v : Nat)] w fun e w' => e = .returned (.tuple #[.agg (writeV s 2 v).1.cells, .int .i64 ((writeV s 2 v).2 : Nat)]) ∧ Below w.heap.size w w' := by
  rw [show (((2 : Nat) : Int)) = 2 from rfl]
  have HV : writeV s 2 v = (s, 0) := by unfold writeV writeS; rw [if_pos hm, if_neg (by decide), if_neg (by decide), if_pos rfl]; unfold empS empTx empRx; rw [if_neg (of_decide_eq_false h0)]; rw [if_neg (of_decide_eq_false h1)]
  rw [HV]; clear HV
  have HC := hide (fun w => rcheck_ok s ok hm w)
  have d1 : (128 : Int) ≤ (s.lc : Int) := by unfold dlB at hd; have := of_decide_eq_true hd; omega
  have t0 : ((v : Int) / 2 % 2 == 1) = false := by rw [← h0, Bool.eq_iff_iff]; simp; omega
  have t0n : (v / 2 % 2 == 1) = false := by rw [← h0, Bool.eq_iff_iff]; simp
  have t1 : ((v : Int) / 4 % 2 == 1) = false := by rw [← h1, Bool.eq_iff_iff]; simp; omega
  have t1n : (v / 4 % 2 == 1) = false := by rw [← h1, Bool.eq_iff_iff]; simp
  clear h0 h1
  go_enter Tryd.func15, Tryd.ntmps15
  go_wp2_with (first | ((with_reducible refine bx_ur w.heap.size s ?_ ?_ ?_); exact rfl; exact rfl; intro W hr hb hz) | ((with_reducible refine al_ur (w.heap.size + 1) ?_ ?_); exact hz.out; intro W hq hb' hz'; replace hr := hr.bl (hz.out ▸ hb'); replace hb := hb.trans (hb'.mono (by omega)); replace hz := hz') | (go_at_call 8; (with_reducible refine (HC.out _).mono ?_); rintro e W ⟨rfl, hbc⟩; replace hr := hr.bl hbc; replace hq := hq.bl hbc; replace hb := below_bl rfl hb hbc) | ((with_reducible refine ld_ur w.heap.size _ hr ?_ ?_ ?_); exact rfl; exact rfl) | ((with_reducible refine ld_lc w.heap.size _ _ hr ?_ ?_); exact rfl) | ((with_reducible refine st_rxr w.heap.size _ zeroF _ hr ?_ ?_ ?_); exact rfl; exact rfl; intro W hnew ho; replace hq := hq.only ho (by omega); replace hr := hnew; replace hb := ho.bel _ _ (by omega) hb) | ((with_reducible refine st_ov w.heap.size _ false _ hr ?_ ?_ ?_); exact rfl; exact rfl; intro W hnew ho; replace hq := hq.only ho (by omega); replace hr := hnew; replace hb := ho.bel _ _ (by omega) hb) | ((with_reducible refine st_txr w.heap.size _ zeroF _ hr ?_ ?_ ?_); exact rfl; exact rfl; intro W hnew ho; replace hq := hq.only ho (by omega); replace hr := hnew; replace hb := ho.bel _ _ (by omega) hb) | ((with_reducible refine st_wt w.heap.size _ 0 _ hr ?_ ?_ ?_); exact rfl; exact rfl; intro W hnew ho; replace hq := hq.only ho (by omega); replace hr := hnew; replace hb := ho.bel _ _ (by omega) hb) | ((with_reducible refine st_ur (w.heap.size + 1) _ (s) hq ?_ ?_ ?_); exact rfl; exact rfl; intro W hnew ho; replace hr := hr.only ho (by omega); replace hq := hnew; replace hb := ho.bel _ _ (by omega) hb))
  refine bodyPost_ret (results_cell_one Tryd.results15 _ _ (w.heap.size + 1) _ _ _ rfl hq Tryd.underlying26 rfl size_ur) rfl ?_
  exact ⟨rfl, hb⟩

set_option maxHeartbeats 1000000 in
theorem rwrite_2t1 (s : U) (ok : s.Ok) (v : Nat) (hv : v < 256) (hm : mayU s = true) (hd : dlB s = true) (h0 : decide (v / 2 % 2 = 1) = false) (h1 : decide (v / 4 % 2 = 1) = true) (w : World) :
    Calls Tryd.prog 15 #[.agg s.cells, .int .u32 ((2 : Nat) : Int), .int .u8 (v : Nat)] w fun e w' => e = .returned (.tuple #[.agg (writeV s 2 v).1.cells, .int .i64 ((writeV s 2 v).2 : Nat)]) ∧ Below w.heap.size w w' := by
  rw [show (((2 : Nat) : Int)) = 2 from rfl]
  have HV : writeV s 2 v = (withWt (withTx (s) zeroF) 0, 0) := by unfold writeV writeS; rw [if_pos hm, if_neg (by decide), if_neg (by decide), if_pos rfl]; unfold empS empTx empRx; rw [if_neg (of_decide_eq_false h0)]; rw [if_pos (of_decide_eq_true h1)]
  rw [HV]; clear HV
  have HC := hide (fun w => rcheck_ok s ok hm w)
  have d1 : (128 : Int) ≤ (s.lc : Int) := by unfold dlB at hd; have := of_decide_eq_true hd; omega
  have t0 : ((v : Int) / 2 % 2 == 1) = false := by rw [← h0, Bool.eq_iff_iff]; simp; omega
  have t0n : (v / 2 % 2 == 1) = false := by rw [← h0, Bool.eq_iff_iff]; simp
  have t1 : ((v : Int) / 4 % 2 == 1) = true := by rw [← h1, Bool.eq_iff_iff]; simp; omega
  have t1n : (v / 4 % 2 == 1) = true := by rw [← h1, Bool.eq_iff_iff]; simp
  clear h0 h1
  go_enter Tryd.func15, Tryd.ntmps15
  go_wp2_with (first | ((with_reducible refine bx_ur w.heap.size s ?_ ?_ ?_); exact rfl; exact rfl; intro W hr hb hz) | ((with_reducible refine al_ur (w.heap.size + 1) ?_ ?_); exact hz.out; intro W hq hb' hz'; replace hr := hr.bl (hz.out ▸ hb'); replace hb := hb.trans (hb'.mono (by omega)); replace hz := hz') | (go_at_call 8; (with_reducible refine (HC.out _).mono ?_); rintro e W ⟨rfl, hbc⟩; replace hr := hr.bl hbc; replace hq := hq.bl hbc; replace hb := below_bl rfl hb hbc) | ((with_reducible refine ld_ur w.heap.size _ hr ?_ ?_ ?_); exact rfl; exact rfl) | ((with_reducible refine ld_lc w.heap.size _ _ hr ?_ ?_); exact rfl) | ((with_reducible refine st_rxr w.heap.size _ zeroF _ hr ?_ ?_ ?_); exact rfl; exact rfl; intro W hnew ho; replace hq := hq.only ho (by omega); replace hr := hnew; replace hb := ho.bel _ _ (by omega) hb) | ((with_reducible refine st_ov w.heap.size _ false _ hr ?_ ?_ ?_); exact rfl; exact rfl; intro W hnew ho; replace hq := hq.only ho (by omega); replace hr := hnew; replace hb := ho.bel _ _ (by omega) hb) | ((with_reducible refine st_txr w.heap.size _ zeroF _ hr ?_ ?_ ?_); exact rfl; exact rfl; intro W hnew ho; replace hq := hq.only ho (by omega); replace hr := hnew; replace hb := ho.bel _ _ (by omega) hb) | ((with_reducible refine st_wt w.heap.size _ 0 _ hr ?_ ?_ ?_); exact rfl; exact rfl; intro W hnew ho; replace hq := hq.only ho (by omega); replace hr := hnew; replace hb := ho.bel _ _ (by omega) hb) | ((with_reducible refine st_ur (w.heap.size + 1) _ (withWt (withTx (s) zeroF) 0) hq ?_ ?_ ?_); exact rfl; exact rfl; intro W hnew ho; replace hr := hr.only ho (by omega); replace hq := hnew; replace hb := ho.bel _ _ (by omega) hb))
  refine bodyPost_ret (results_cell_one Tryd.results15 _ _ (w.heap.size + 1) _ _ _ rfl hq Tryd.underlying26 rfl size_ur) rfl ?_
  exact ⟨rfl, hb⟩

set_option maxHeartbeats 1000000 in
theorem rwrite_2t2 (s : U) (ok : s.Ok) (v : Nat) (hv : v < 256) (hm : mayU s = true) (hd : dlB s = true) (h0 : decide (v / 2 % 2 = 1) = true) (h1 : decide (v / 4 % 2 = 1) = false) (w : World) :
    Calls Tryd.prog 15 #[.agg s.cells, .int .u32 ((2 : Nat) : Int), .int .u8 (v : Nat)] w fun e w' => e = .returned (.tuple #[.agg (writeV s 2 v).1.cells, .int .i64 ((writeV s 2 v).2 : Nat)]) ∧ Below w.heap.size w w' := by
  rw [show (((2 : Nat) : Int)) = 2 from rfl]
  have HV : writeV s 2 v = (withOv (withRx s zeroF) false, 0) := by unfold writeV writeS; rw [if_pos hm, if_neg (by decide), if_neg (by decide), if_pos rfl]; unfold empS empTx empRx; rw [if_pos (of_decide_eq_true h0)]; rw [if_neg (of_decide_eq_false h1)]
  rw [HV]; clear HV
  have HC := hide (fun w => rcheck_ok s ok hm w)
  have d1 : (128 : Int) ≤ (s.lc : Int) := by unfold dlB at hd; have := of_decide_eq_true hd; omega
  have t0 : ((v : Int) / 2 % 2 == 1) = true := by rw [← h0, Bool.eq_iff_iff]; simp; omega
  have t0n : (v / 2 % 2 == 1) = true := by rw [← h0, Bool.eq_iff_iff]; simp
  have t1 : ((v : Int) / 4 % 2 == 1) = false := by rw [← h1, Bool.eq_iff_iff]; simp; omega
  have t1n : (v / 4 % 2 == 1) = false := by rw [← h1, Bool.eq_iff_iff]; simp
  clear h0 h1
  go_enter Tryd.func15, Tryd.ntmps15
  go_wp2_with (first | ((with_reducible refine bx_ur w.heap.size s ?_ ?_ ?_); exact rfl; exact rfl; intro W hr hb hz) | ((with_reducible refine al_ur (w.heap.size + 1) ?_ ?_); exact hz.out; intro W hq hb' hz'; replace hr := hr.bl (hz.out ▸ hb'); replace hb := hb.trans (hb'.mono (by omega)); replace hz := hz') | (go_at_call 8; (with_reducible refine (HC.out _).mono ?_); rintro e W ⟨rfl, hbc⟩; replace hr := hr.bl hbc; replace hq := hq.bl hbc; replace hb := below_bl rfl hb hbc) | ((with_reducible refine ld_ur w.heap.size _ hr ?_ ?_ ?_); exact rfl; exact rfl) | ((with_reducible refine ld_lc w.heap.size _ _ hr ?_ ?_); exact rfl) | ((with_reducible refine st_rxr w.heap.size _ zeroF _ hr ?_ ?_ ?_); exact rfl; exact rfl; intro W hnew ho; replace hq := hq.only ho (by omega); replace hr := hnew; replace hb := ho.bel _ _ (by omega) hb) | ((with_reducible refine st_ov w.heap.size _ false _ hr ?_ ?_ ?_); exact rfl; exact rfl; intro W hnew ho; replace hq := hq.only ho (by omega); replace hr := hnew; replace hb := ho.bel _ _ (by omega) hb) | ((with_reducible refine st_txr w.heap.size _ zeroF _ hr ?_ ?_ ?_); exact rfl; exact rfl; intro W hnew ho; replace hq := hq.only ho (by omega); replace hr := hnew; replace hb := ho.bel _ _ (by omega) hb) | ((with_reducible refine st_wt w.heap.size _ 0 _ hr ?_ ?_ ?_); exact rfl; exact rfl; intro W hnew ho; replace hq := hq.only ho (by omega); replace hr := hnew; replace hb := ho.bel _ _ (by omega) hb) | ((with_reducible refine st_ur (w.heap.size + 1) _ (withOv (withRx s zeroF) false) hq ?_ ?_ ?_); exact rfl; exact rfl; intro W hnew ho; replace hr := hr.only ho (by omega); replace hq := hnew; replace hb := ho.bel _ _ (by omega) hb))
  refine bodyPost_ret (results_cell_one Tryd.results15 _ _ (w.heap.size + 1) _ _ _ rfl hq Tryd.underlying26 rfl size_ur) rfl ?_
  exact ⟨rfl, hb⟩

set_option maxHeartbeats 1000000 in
theorem rwrite_2t3 (s : U) (ok : s.Ok) (v : Nat) (hv : v < 256) (hm : mayU s = true) (hd : dlB s = true) (h0 : decide (v / 2 % 2 = 1) = true) (h1 : decide (v / 4 % 2 = 1) = true) (w : World) :
    Calls Tryd.prog 15 #[.agg s.cells, .int .u32 ((2 : Nat) : Int), .int .u8 (v : Nat)] w fun e w' => e = .returned (.tuple #[.agg (writeV s 2 v).1.cells, .int .i64 ((writeV s 2 v).2 : Nat)]) ∧ Below w.heap.size w w' := by
  rw [show (((2 : Nat) : Int)) = 2 from rfl]
  have HV : writeV s 2 v = (withWt (withTx (withOv (withRx s zeroF) false) zeroF) 0, 0) := by unfold writeV writeS; rw [if_pos hm, if_neg (by decide), if_neg (by decide), if_pos rfl]; unfold empS empTx empRx; rw [if_pos (of_decide_eq_true h0)]; rw [if_pos (of_decide_eq_true h1)]
  rw [HV]; clear HV
  have HC := hide (fun w => rcheck_ok s ok hm w)
  have d1 : (128 : Int) ≤ (s.lc : Int) := by unfold dlB at hd; have := of_decide_eq_true hd; omega
  have t0 : ((v : Int) / 2 % 2 == 1) = true := by rw [← h0, Bool.eq_iff_iff]; simp; omega
  have t0n : (v / 2 % 2 == 1) = true := by rw [← h0, Bool.eq_iff_iff]; simp
  have t1 : ((v : Int) / 4 % 2 == 1) = true := by rw [← h1, Bool.eq_iff_iff]; simp; omega
  have t1n : (v / 4 % 2 == 1) = true := by rw [← h1, Bool.eq_iff_iff]; simp
  clear h0 h1
  go_enter Tryd.func15, Tryd.ntmps15
  go_wp2_with (first | ((with_reducible refine bx_ur w.heap.size s ?_ ?_ ?_); exact rfl; exact rfl; intro W hr hb hz) | ((with_reducible refine al_ur (w.heap.size + 1) ?_ ?_); exact hz.out; intro W hq hb' hz'; replace hr := hr.bl (hz.out ▸ hb'); replace hb := hb.trans (hb'.mono (by omega)); replace hz := hz') | (go_at_call 8; (with_reducible refine (HC.out _).mono ?_); rintro e W ⟨rfl, hbc⟩; replace hr := hr.bl hbc; replace hq := hq.bl hbc; replace hb := below_bl rfl hb hbc) | ((with_reducible refine ld_ur w.heap.size _ hr ?_ ?_ ?_); exact rfl; exact rfl) | ((with_reducible refine ld_lc w.heap.size _ _ hr ?_ ?_); exact rfl) | ((with_reducible refine st_rxr w.heap.size _ zeroF _ hr ?_ ?_ ?_); exact rfl; exact rfl; intro W hnew ho; replace hq := hq.only ho (by omega); replace hr := hnew; replace hb := ho.bel _ _ (by omega) hb) | ((with_reducible refine st_ov w.heap.size _ false _ hr ?_ ?_ ?_); exact rfl; exact rfl; intro W hnew ho; replace hq := hq.only ho (by omega); replace hr := hnew; replace hb := ho.bel _ _ (by omega) hb) | ((with_reducible refine st_txr w.heap.size _ zeroF _ hr ?_ ?_ ?_); exact rfl; exact rfl; intro W hnew ho; replace hq := hq.only ho (by omega); replace hr := hnew; replace hb := ho.bel _ _ (by omega) hb) | ((with_reducible refine st_wt w.heap.size _ 0 _ hr ?_ ?_ ?_); exact rfl; exact rfl; intro W hnew ho; replace hq := hq.only ho (by omega); replace hr := hnew; replace hb := ho.bel _ _ (by omega) hb) | ((with_reducible refine st_ur (w.heap.size + 1) _ (withWt (withTx (withOv (withRx s zeroF) false) zeroF) 0) hq ?_ ?_ ?_); exact rfl; exact rfl; intro W hnew ho; replace hr := hr.only ho (by omega); replace hq := hnew; replace hb := ho.bel _ _ (by omega) hb))
  refine bodyPost_ret (results_cell_one Tryd.results15 _ _ (w.heap.size + 1) _ _ _ rfl hq Tryd.underlying26 rfl size_ur) rfl ?_
  exact ⟨rfl, hb⟩

set_option maxHeartbeats 1000000 in
theorem rwrite_nonet (s : U) (ok : s.Ok) (v : Nat) (hv : v < 256) (a : Nat) (ha : 7 < a) (hm : mayU s = true) (hd : dlB s = true) (w : World) :
    Calls Tryd.prog 15 #[.agg s.cells, .int .u32 (a : Nat), .int .u8 (v : Nat)] w fun e w' => e = .returned (.tuple #[.agg (writeV s a v).1.cells, .int .i64 ((writeV s a v).2 : Nat)]) ∧ Below w.heap.size w w' := by
  have HV : writeV s a v = (zeroU, 20) := by unfold writeV writeS; rw [if_pos hm, if_neg (by omega), if_neg (by omega), if_neg (by omega), if_neg (by omega), if_neg (by omega), if_neg (by omega), if_neg (by omega), if_neg (by omega)]
  rw [HV]; clear HV
  have t0 : ((a : Int) == 0) = false := by simp; omega
  have t1 : ((a : Int) == 1) = false := by simp; omega
  have t2 : ((a : Int) == 2) = false := by simp; omega
  have t3 : ((a : Int) == 3) = false := by simp; omega
  have t4 : ((a : Int) == 4) = false := by simp; omega
  have t5 : ((a : Int) == 5) = false := by simp; omega
  have t6 : ((a : Int) == 6) = false := by simp; omega
  have t7 : ((a : Int) == 7) = false := by simp; omega
  have HC := hide (fun w => rcheck_ok s ok hm w)
  have d1 : (128 : Int) ≤ (s.lc : Int) := by unfold dlB at hd; have := of_decide_eq_true hd; omega
  go_enter Tryd.func15, Tryd.ntmps15
  go_wp2_with (first | ((with_reducible refine bx_ur w.heap.size s ?_ ?_ ?_); exact rfl; exact rfl; intro W hr hb hz) | ((with_reducible refine al_ur (w.heap.size + 1) ?_ ?_); exact hz.out; intro W hq hb' hz'; replace hr := hr.bl (hz.out ▸ hb'); replace hb := hb.trans (hb'.mono (by omega)); replace hz := hz') | (go_at_call 8; (with_reducible refine (HC.out _).mono ?_); rintro e W ⟨rfl, hbc⟩; replace hr := hr.bl hbc; replace hq := hq.bl hbc; replace hb := below_bl rfl hb hbc) | ((with_reducible refine ld_ur w.heap.size _ hr ?_ ?_ ?_); exact rfl; exact rfl) | ((with_reducible refine ld_lc w.heap.size _ _ hr ?_ ?_); exact rfl) | ((with_reducible refine st_ur (w.heap.size + 1) _ zeroU hq ?_ ?_ ?_); exact rfl; exact rfl; intro W hnew ho; replace hr := hr.only ho (by omega); replace hq := hnew; replace hb := ho.bel _ _ (by omega) hb))
  refine bodyPost_ret (results_cell_one Tryd.results15 _ _ (w.heap.size + 1) _ _ _ rfl hq Tryd.underlying26 rfl size_ur) rfl ?_
  exact ⟨rfl, hb⟩

set_option maxHeartbeats 1000000 in
theorem rwrite_3f (s : U) (ok : s.Ok) (v : Nat) (hv : v < 256) (hm : mayU s = true) (hd : dlB s = false) (w : World) :
    Calls Tryd.prog 15 #[.agg s.cells, .int .u32 ((3 : Nat) : Int), .int .u8 (v : Nat)] w fun e w' => e = .returned (.tuple #[.agg (writeV s 3 v).1.cells, .int .i64 ((writeV s 3 v).2 : Nat)]) ∧ Below w.heap.size w w' := by
  rw [show (((3 : Nat) : Int)) = 3 from rfl]
  have HV : writeV s 3 v = (withLc s v, 0) := by unfold writeV writeS; rw [if_pos hm, if_neg (by decide), if_neg (by decide), if_neg (by decide), if_pos rfl]
  rw [HV]; clear HV
  have HC := hide (fun w => rcheck_ok s ok hm w)
  have d1 : decide ((128 : Int) ≤ (s.lc : Int)) = false := by unfold dlB at hd; have := of_decide_eq_false hd; simp; omega
  have d2 : decide (128 ≤ s.lc) = false := hd
  go_enter Tryd.func15, Tryd.ntmps15
  go_wp2_with (first | ((with_reducible refine bx_ur w.heap.size s ?_ ?_ ?_); exact rfl; exact rfl; intro W hr hb hz) | ((with_reducible refine al_ur (w.heap.size + 1) ?_ ?_); exact hz.out; intro W hq hb' hz'; replace hr := hr.bl (hz.out ▸ hb'); replace hb := hb.trans (hb'.mono (by omega)); replace hz := hz') | (go_at_call 8; (with_reducible refine (HC.out _).mono ?_); rintro e W ⟨rfl, hbc⟩; replace hr := hr.bl hbc; replace hq := hq.bl hbc; replace hb := below_bl rfl hb hbc) | ((with_reducible refine ld_ur w.heap.size _ hr ?_ ?_ ?_); exact rfl; exact rfl) | ((with_reducible refine ld_lc w.heap.size _ _ hr ?_ ?_); exact rfl) | ((with_reducible refine st_lc w.heap.size _ v _ hr ?_ ?_ ?_); exact rfl; exact rfl; intro W hnew ho; replace hq := hq.only ho (by omega); replace hr := hnew; replace hb := ho.bel _ _ (by omega) hb) | ((with_reducible refine st_ur (w.heap.size + 1) _ (withLc s v) hq ?_ ?_ ?_); exact rfl; exact rfl; intro W hnew ho; replace hr := hr.only ho (by omega); replace hq := hnew; replace hb := ho.bel _ _ (by omega) hb))
  refine bodyPost_ret (results_cell_one Tryd.results15 _ _ (w.heap.size + 1) _ _ _ rfl hq Tryd.underlying26 rfl size_ur) rfl ?_
  exact ⟨rfl, hb⟩

set_option maxHeartbeats 1000000 in
theorem rwrite_4f (s : U) (ok : s.Ok) (v : Nat) (hv : v < 256) (hm : mayU s = true) (hd : dlB s = false) (w : World) :
    Calls Tryd.prog 15 #[.agg s.cells, .int .u32 ((4 : Nat) : Int), .int .u8 (v : Nat)] w fun e w' => e = .returned (.tuple #[.agg (writeV s 4 v).1.cells, .int .i64 ((writeV s 4 v).2 : Nat)]) ∧ Below w.heap.size w w' := by
  rw [show (((4 : Nat) : Int)) = 4 from rfl]
  have HV : writeV s 4 v = (withMc s (v % 32), 0) := by unfold writeV writeS; rw [if_pos hm, if_neg (by decide), if_neg (by decide), if_neg (by decide), if_neg (by decide), if_pos rfl]
  rw [HV]; clear HV
  have HC := hide (fun w => rcheck_ok s ok hm w)
  have d1 : decide ((128 : Int) ≤ (s.lc : Int)) = false := by unfold dlB at hd; have := of_decide_eq_false hd; simp; omega
  have d2 : decide (128 ≤ s.lc) = false := hd
  go_enter Tryd.func15, Tryd.ntmps15
  go_wp2_with (first | ((with_reducible refine bx_ur w.heap.size s ?_ ?_ ?_); exact rfl; exact rfl; intro W hr hb hz) | ((with_reducible refine al_ur (w.heap.size + 1) ?_ ?_); exact hz.out; intro W hq hb' hz'; replace hr := hr.bl (hz.out ▸ hb'); replace hb := hb.trans (hb'.mono (by omega)); replace hz := hz') | (go_at_call 8; (with_reducible refine (HC.out _).mono ?_); rintro e W ⟨rfl, hbc⟩; replace hr := hr.bl hbc; replace hq := hq.bl hbc; replace hb := below_bl rfl hb hbc) | ((with_reducible refine ld_ur w.heap.size _ hr ?_ ?_ ?_); exact rfl; exact rfl) | ((with_reducible refine ld_lc w.heap.size _ _ hr ?_ ?_); exact rfl) | ((with_reducible refine st_mc w.heap.size _ (v % 32) _ hr ?_ ?_ ?_); exact rfl; exact rfl; intro W hnew ho; replace hq := hq.only ho (by omega); replace hr := hnew; replace hb := ho.bel _ _ (by omega) hb) | ((with_reducible refine st_ur (w.heap.size + 1) _ (withMc s (v % 32)) hq ?_ ?_ ?_); exact rfl; exact rfl; intro W hnew ho; replace hr := hr.only ho (by omega); replace hq := hnew; replace hb := ho.bel _ _ (by omega) hb))
  refine bodyPost_ret (results_cell_one Tryd.results15 _ _ (w.heap.size + 1) _ _ _ rfl hq Tryd.underlying26 rfl size_ur) rfl ?_
  exact ⟨rfl, hb⟩

set_option maxHeartbeats 1000000 in
theorem rwrite_7f (s : U) (ok : s.Ok) (v : Nat) (hv : v < 256) (hm : mayU s = true) (hd : dlB s = false) (w : World) :
    Calls Tryd.prog 15 #[.agg s.cells, .int .u32 ((7 : Nat) : Int), .int .u8 (v : Nat)] w fun e w' => e = .returned (.tuple #[.agg (writeV s 7 v).1.cells, .int .i64 ((writeV s 7 v).2 : Nat)]) ∧ Below w.heap.size w w' := by
  rw [show (((7 : Nat) : Int)) = 7 from rfl]
  have HV : writeV s 7 v = (withSc s v, 0) := by unfold writeV writeS; rw [if_pos hm, if_neg (by decide), if_neg (by decide), if_neg (by decide), if_neg (by decide), if_neg (by decide), if_neg (by decide), if_neg (by decide), if_pos rfl]
  rw [HV]; clear HV
  have HC := hide (fun w => rcheck_ok s ok hm w)
  have d1 : decide ((128 : Int) ≤ (s.lc : Int)) = false := by unfold dlB at hd; have := of_decide_eq_false hd; simp; omega
  have d2 : decide (128 ≤ s.lc) = false := hd
  go_enter Tryd.func15, Tryd.ntmps15
  go_wp2_with (first | ((with_reducible refine bx_ur w.heap.size s ?_ ?_ ?_); exact rfl; exact rfl; intro W hr hb hz) | ((with_reducible refine al_ur (w.heap.size + 1) ?_ ?_); exact hz.out; intro W hq hb' hz'; replace hr := hr.bl (hz.out ▸ hb'); replace hb := hb.trans (hb'.mono (by omega)); replace hz := hz') | (go_at_call 8; (with_reducible refine (HC.out _).mono ?_); rintro e W ⟨rfl, hbc⟩; replace hr := hr.bl hbc; replace hq := hq.bl hbc; replace hb := below_bl rfl hb hbc) | ((with_reducible refine ld_ur w.heap.size _ hr ?_ ?_ ?_); exact rfl; exact rfl) | ((with_reducible refine ld_lc w.heap.size _ _ hr ?_ ?_); exact rfl) | ((with_reducible refine st_sc w.heap.size _ v _ hr ?_ ?_ ?_); exact rfl; exact rfl; intro W hnew ho; replace hq := hq.only ho (by omega); replace hr := hnew; replace hb := ho.bel _ _ (by omega) hb) | ((with_reducible refine st_ur (w.heap.size + 1) _ (withSc s v) hq ?_ ?_ ?_); exact rfl; exact rfl; intro W hnew ho; replace hr := hr.only ho (by omega); replace hq := hnew; replace hb := ho.bel _ _ (by omega) hb))
  refine bodyPost_ret (results_cell_one Tryd.results15 _ _ (w.heap.size + 1) _ _ _ rfl hq Tryd.underlying26 rfl size_ur) rfl ?_
  exact ⟨rfl, hb⟩

set_option maxHeartbeats 1000000 in
theorem rwrite_5f (s : U) (ok : s.Ok) (v : Nat) (hv : v < 256) (hm : mayU s = true) (hd : dlB s = false) (w : World) :
    Calls Tryd.prog 15 #[.agg s.cells, .int .u32 ((5 : Nat) : Int), .int .u8 (v : Nat)] w fun e w' => e = .returned (.tuple #[.agg (writeV s 5 v).1.cells, .int .i64 ((writeV s 5 v).2 : Nat)]) ∧ Below w.heap.size w w' := by
  rw [show (((5 : Nat) : Int)) = 5 from rfl]
  have HV : writeV s 5 v = (s, 0) := by unfold writeV writeS; rw [if_pos hm, if_neg (by decide), if_neg (by decide), if_neg (by decide), if_neg (by decide), if_neg (by decide), if_pos rfl]
  rw [HV]; clear HV
  have HC := hide (fun w => rcheck_ok s ok hm w)
  have d1 : decide ((128 : Int) ≤ (s.lc : Int)) = false := by unfold dlB at hd; have := of_decide_eq_false hd; simp; omega
  have d2 : decide (128 ≤ s.lc) = false := hd
  go_enter Tryd.func15, Tryd.ntmps15
  go_wp2_with (first | ((with_reducible refine bx_ur w.heap.size s ?_ ?_ ?_); exact rfl; exact rfl; intro W hr hb hz) | ((with_reducible refine al_ur (w.heap.size + 1) ?_ ?_); exact hz.out; intro W hq hb' hz'; replace hr := hr.bl (hz.out ▸ hb'); replace hb := hb.trans (hb'.mono (by omega)); replace hz := hz') | (go_at_call 8; (with_reducible refine (HC.out _).mono ?_); rintro e W ⟨rfl, hbc⟩; replace hr := hr.bl hbc; replace hq := hq.bl hbc; replace hb := below_bl rfl hb hbc) | ((with_reducible refine ld_ur w.heap.size _ hr ?_ ?_ ?_); exact rfl; exact rfl) | ((with_reducible refine ld_lc w.heap.size _ _ hr ?_ ?_); exact rfl) | ((with_reducible refine st_ur (w.heap.size + 1) _ (s) hq ?_ ?_ ?_); exact rfl; exact rfl; intro W hnew ho; replace hr := hr.only ho (by omega); replace hq := hnew; replace hb := ho.bel _ _ (by omega) hb))
  refine bodyPost_ret (results_cell_one Tryd.results15 _ _ (w.heap.size + 1) _ _ _ rfl hq Tryd.underlying26 rfl size_ur) rfl ?_
  exact ⟨rfl, hb⟩

set_option maxHeartbeats 1000000 in
theorem rwrite_6f (s : U) (ok : s.Ok) (v : Nat) (hv : v < 256) (hm : mayU s = true) (hd : dlB s = false) (w : World) :
    Calls Tryd.prog 15 #[.agg s.cells, .int .u32 ((6 : Nat) : Int), .int .u8 (v : Nat)] w fun e w' => e = .returned (.tuple #[.agg (writeV s 6 v).1.cells, .int .i64 ((writeV s 6 v).2 : Nat)]) ∧ Below w.heap.size w w' := by
  rw [show (((6 : Nat) : Int)) = 6 from rfl]
  have HV : writeV s 6 v = (s, 0) := by unfold writeV writeS; rw [if_pos hm, if_neg (by decide), if_neg (by decide), if_neg (by decide), if_neg (by decide), if_neg (by decide), if_neg (by decide), if_pos rfl]
  rw [HV]; clear HV
  have HC := hide (fun w => rcheck_ok s ok hm w)
  have d1 : decide ((128 : Int) ≤ (s.lc : Int)) = false := by unfold dlB at hd; have := of_decide_eq_false hd; simp; omega
  have d2 : decide (128 ≤ s.lc) = false := hd
  go_enter Tryd.func15, Tryd.ntmps15
  go_wp2_with (first | ((with_reducible refine bx_ur w.heap.size s ?_ ?_ ?_); exact rfl; exact rfl; intro W hr hb hz) | ((with_reducible refine al_ur (w.heap.size + 1) ?_ ?_); exact hz.out; intro W hq hb' hz'; replace hr := hr.bl (hz.out ▸ hb'); replace hb := hb.trans (hb'.mono (by omega)); replace hz := hz') | (go_at_call 8; (with_reducible refine (HC.out _).mono ?_); rintro e W ⟨rfl, hbc⟩; replace hr := hr.bl hbc; replace hq := hq.bl hbc; replace hb := below_bl rfl hb hbc) | ((with_reducible refine ld_ur w.heap.size _ hr ?_ ?_ ?_); exact rfl; exact rfl) | ((with_reducible refine ld_lc w.heap.size _ _ hr ?_ ?_); exact rfl) | ((with_reducible refine st_ur (w.heap.size + 1) _ (s) hq ?_ ?_ ?_); exact rfl; exact rfl; intro W hnew ho; replace hr := hr.only ho (by omega); replace hq := hnew; replace hb := ho.bel _ _ (by omega) hb))
  refine bodyPost_ret (results_cell_one Tryd.results15 _ _ (w.heap.size + 1) _ _ _ rfl hq Tryd.underlying26 rfl size_ur) rfl ?_
  exact ⟨rfl, hb⟩

set_option maxHeartbeats 1000000 in
theorem rwrite_2f0 (s : U) (ok : s.Ok) (v : Nat) (hv : v < 256) (hm : mayU s = true) (hd : dlB s = false) (h0 : decide (v / 2 % 2 = 1) = false) (h1 : decide (v / 4 % 2 = 1) = false) (w : World) :
    Calls Tryd.prog 15 #[.agg s.cells, .int .u32 ((2 : Nat) : Int), .int .u8 (v : Nat)] w fun e w' => e = .returned (.tuple #[.agg (writeV s 2 v).1.cells, .int .i64 ((writeV s 2 v).2 : Nat)]) ∧ Below w.heap.size w w' := by
  rw [show (((2 : Nat) : Int)) = 2 from rfl]
  have HV : writeV s 2 v = (s, 0) := by unfold writeV writeS; rw [if_pos hm, if_neg (by decide), if_neg (by decide), if_pos rfl]; unfold empS empTx empRx; rw [if_neg (of_decide_eq_false h0)]; rw [if_neg (of_decide_eq_false h1)]
  rw [HV]; clear HV
  have HC := hide (fun w => rcheck_ok s ok hm w)
  have d1 : decide ((128 : Int) ≤ (s.lc : Int)) = false := by unfold dlB at hd; have := of_decide_eq_false hd; simp; omega
  have d2 : decide (128 ≤ s.lc) = false := hd
  have t0 : ((v : Int) / 2 % 2 == 1) = false := by rw [← h0, Bool.eq_iff_iff]; simp; omega
  have t0n : (v / 2 % 2 == 1) = false := by rw [← h0, Bool.eq_iff_iff]; simp
  have t1 : ((v : Int) / 4 % 2 == 1) = false := by rw [← h1, Bool.eq_iff_iff]; simp; omega
  have t1n : (v / 4 % 2 == 1) = false := by rw [← h1, Bool.eq_iff_iff]; simp
  clear h0 h1
  go_enter Tryd.func15, Tryd.ntmps15
  go_wp2_with (first | ((with_reducible refine bx_ur w.heap.size s ?_ ?_ ?_); exact rfl; exact rfl; intro W hr hb hz) | ((with_reducible refine al_ur (w.heap.size + 1) ?_ ?_); exact hz.out; intro W hq hb' hz'; replace hr := hr.bl (hz.out ▸ hb'); replace hb := hb.trans (hb'.mono (by omega)); replace hz := hz') | (go_at_call 8; (with_reducible refine (HC.out _).mono ?_); rintro e W ⟨rfl, hbc⟩; replace hr := hr.bl hbc; replace hq := hq.bl hbc; replace hb := below_bl rfl hb hbc) | ((with_reducible refine ld_ur w.heap.size _ hr ?_ ?_ ?_); exact rfl; exact rfl) | ((with_reducible refine ld_lc w.heap.size _ _ hr ?_ ?_); exact rfl) | ((with_reducible refine st_rxr w.heap.size _ zeroF _ hr ?_ ?_ ?_); exact rfl; exact rfl; intro W hnew ho; replace hq := hq.only ho (by omega); replace hr := hnew; replace hb := ho.bel _ _ (by omega) hb) | ((with_reducible refine st_ov w.heap.size _ false _ hr ?_ ?_ ?_); exact rfl; exact rfl; intro W hnew ho; replace hq := hq.only ho (by omega); replace hr := hnew; replace hb := ho.bel _ _ (by omega) hb) | ((with_reducible refine st_txr w.heap.size _ zeroF _ hr ?_ ?_ ?_); exact rfl; exact rfl; intro W hnew ho; replace hq := hq.only ho (by omega); replace hr := hnew; replace hb := ho.bel _ _ (by omega) hb) | ((with_reducible refine st_wt w.heap.size _ 0 _ hr ?_ ?_ ?_); exact rfl; exact rfl; intro W hnew ho; replace hq := hq.only ho (by omega); replace hr := hnew; replace hb := ho.bel _ _ (by omega) hb) | ((with_reducible refine st_ur (w.heap.size + 1) _ (s) hq ?_ ?_ ?_); exact rfl; exact rfl; intro W hnew ho; replace hr := hr.only ho (by omega); replace hq := hnew; replace hb := ho.bel _ _ (by omega) hb))
  refine bodyPost_ret (results_cell_one Tryd.results15 _ _ (w.heap.size + 1) _ _ _ rfl hq Tryd.underlying26 rfl size_ur) rfl ?_
  exact ⟨rfl, hb⟩

set_option maxHeartbeats 1000000 in
theorem rwrite_2f1 (s : U) (ok : s.Ok) (v : Nat) (hv : v < 256) (hm : mayU s = true) (hd : dlB s = false) (h0 : decide (v / 2 % 2 = 1) = false) (h1 : decide (v / 4 % 2 = 1) = true) (w : World) :
    Calls Tryd.prog 15 #[.agg s.cells, .int .u32 ((2 : Nat) : Int), .int .u8 (v : Nat)] w fun e w' => e = .returned (.tuple #[.agg (writeV s 2 v).1.cells, .int .i64 ((writeV s 2 v).2 : Nat)]) ∧ Below w.heap.size w w' := by
  rw [show (((2 : Nat) : Int)) = 2 from rfl]
  have HV : writeV s 2 v = (withWt (withTx (s) zeroF) 0, 0) := by unfold writeV writeS; rw [if_pos hm, if_neg (by decide), if_neg (by decide), if_pos rfl]; unfold empS empTx empRx; rw [if_neg (of_decide_eq_false h0)]; rw [if_pos (of_decide_eq_true h1)]
  rw [HV]; clear HV
  have HC := hide (fun w => rcheck_ok s ok hm w)
  have d1 : decide ((128 : Int) ≤ (s.lc : Int)) = false := by unfold dlB at hd; have := of_decide_eq_false hd; simp; omega
  have d2 : decide (128 ≤ s.lc) = false := hd
  have t0 : ((v : Int) / 2 % 2 == 1) = false := by rw [← h0, Bool.eq_iff_iff]; simp; omega
  have t0n : (v / 2 % 2 == 1) = false := by rw [← h0, Bool.eq_iff_iff]; simp
  have t1 : ((v : Int) / 4 % 2 == 1) = true := by rw [← h1, Bool.eq_iff_iff]; simp; omega
  have t1n : (v / 4 % 2 == 1) = true := by rw [← h1, Bool.eq_iff_iff]; simp
  clear h0 h1
  go_enter Tryd.func15, Tryd.ntmps15
  go_wp2_with (first | ((with_reducible refine bx_ur w.heap.size s ?_ ?_ ?_); exact rfl; exact rfl; intro W hr hb hz) | ((with_reducible refine al_ur (w.heap.size + 1) ?_ ?_); exact hz.out; intro W hq hb' hz'; replace hr := hr.bl (hz.out ▸ hb'); replace hb := hb.trans (hb'.mono (by omega)); replace hz := hz') | (go_at_call 8; (with_reducible refine (HC.out _).mono ?_); rintro e W ⟨rfl, hbc⟩; replace hr := hr.bl hbc; replace hq := hq.bl hbc; replace hb := below_bl rfl hb hbc) | ((with_reducible refine ld_ur w.heap.size _ hr ?_ ?_ ?_); exact rfl; exact rfl) | ((with_reducible refine ld_lc w.heap.size _ _ hr ?_ ?_); exact rfl) | ((with_reducible refine st_rxr w.heap.size _ zeroF _ hr ?_ ?_ ?_); exact rfl; exact rfl; intro W hnew ho; replace hq := hq.only ho (by omega); replace hr := hnew; replace hb := ho.bel _ _ (by omega) hb) | ((with_reducible refine st_ov w.heap.size _ false _ hr ?_ ?_ ?_); exact rfl; exact rfl; intro W hnew ho; replace hq := hq.only ho (by omega); replace hr := hnew; replace hb := ho.bel _ _ (by omega) hb) | ((with_reducible refine st_txr w.heap.size _ zeroF _ hr ?_ ?_ ?_); exact rfl; exact rfl; intro W hnew ho; replace hq := hq.only ho (by omega); replace hr := hnew; replace hb := ho.bel _ _ (by omega) hb) | ((with_reducible refine st_wt w.heap.size _ 0 _ hr ?_ ?_ ?_); exact rfl; exact rfl; intro W hnew ho; replace hq := hq.only ho (by omega); replace hr := hnew; replace hb := ho.bel _ _ (by omega) hb) | ((with_reducible refine st_ur (w.heap.size + 1) _ (withWt (withTx (s) zeroF) 0) hq ?_ ?_ ?_); exact rfl; exact rfl; intro W hnew ho; replace hr := hr.only ho (by omega); replace hq := hnew; replace hb := ho.bel _ _ (by omega) hb))
  refine bodyPost_ret (results_cell_one Tryd.results15 _ _ (w.heap.size + 1) _ _ _ rfl hq Tryd.underlying26 rfl size_ur) rfl ?_
  exact ⟨rfl, hb⟩

set_option maxHeartbeats 1000000 in
theorem rwrite_2f2 (s : U) (ok : s.Ok) (v : Nat) (hv : v < 256) (hm : mayU s = true) (hd : dlB s = false) (h0 : decide (v / 2 % 2 = 1) = true) (h1 : decide (v / 4 % 2 = 1) = false) (w : World) :
    Calls Tryd.prog 15 #[.agg s.cells, .int .u32 ((2 : Nat) : Int), .int .u8 (v : Nat)] w fun e w' => e = .returned (.tuple #[.agg (writeV s 2 v).1.cells, .int .i64 ((writeV s 2 v).2 : Nat)]) ∧ Below w.heap.size w w' := by
  rw [show (((2 : Nat) : Int)) = 2 from rfl]
  have HV : writeV s 2 v = (withOv (withRx s zeroF) false, 0) := by unfold writeV writeS; rw [if_pos hm, if_neg (by decide), if_neg (by decide), if_pos rfl]; unfold empS empTx empRx; rw [if_pos (of_decide_eq_true h0)]; rw [if_neg (of_decide_eq_false h1)]
  rw [HV]; clear HV
  have HC := hide (fun w => rcheck_ok s ok hm w)
  have d1 : decide ((128 : Int) ≤ (s.lc : Int)) = false := by unfold dlB at hd; have := of_decide_eq_false hd; simp; omega
  have d2 : decide (128 ≤ s.lc) = false := hd
  have t0 : ((v : Int) / 2 % 2 == 1) = true := by rw [← h0, Bool.eq_iff_iff]; simp; omega
  have t0n : (v / 2 % 2 == 1) = true := by rw [← h0, Bool.eq_iff_iff]; simp
  have t1 : ((v : Int) / 4 % 2 == 1) = false := by rw [← h1, Bool.eq_iff_iff]; simp; omega
  have t1n : (v / 4 % 2 == 1) = false := by rw [← h1, Bool.eq_iff_iff]; simp
  clear h0 h1
  go_enter Tryd.func15, Tryd.ntmps15
  go_wp2_with (first | ((with_reducible refine bx_ur w.heap.size s ?_ ?_ ?_); exact rfl; exact rfl; intro W hr hb hz) | ((with_reducible refine al_ur (w.heap.size + 1) ?_ ?_); exact hz.out; intro W hq hb' hz'; replace hr := hr.bl (hz.out ▸ hb'); replace hb := hb.trans (hb'.mono (by omega)); replace hz := hz') | (go_at_call 8; (with_reducible refine (HC.out _).mono ?_); rintro e W ⟨rfl, hbc⟩; replace hr := hr.bl hbc; replace hq := hq.bl hbc; replace hb := below_bl rfl hb hbc) | ((with_reducible refine ld_ur w.heap.size _ hr ?_ ?_ ?_); exact rfl; exact rfl) | ((with_reducible refine ld_lc w.heap.size _ _ hr ?_ ?_); exact rfl) | ((with_reducible refine st_rxr w.heap.size _ zeroF _ hr ?_ ?_ ?_); exact rfl; exact rfl; intro W hnew ho; replace hq := hq.only ho (by omega); replace hr := hnew; replace hb := ho.bel _ _ (by omega) hb) | ((with_reducible refine st_ov w.heap.size _ false _ hr ?_ ?_ ?_); exact rfl; exact rfl; intro W hnew ho; replace hq := hq.only ho (by omega); replace hr := hnew; replace hb := ho.bel _ _ (by omega) hb) | ((with_reducible refine st_txr w.heap.size _ zeroF _ hr ?_ ?_ ?_); exact rfl; exact rfl; intro W hnew ho; replace hq := hq.only ho (by omega); replace hr := hnew; replace hb := ho.bel _ _ (by omega) hb) | ((with_reducible refine st_wt w.heap.size _ 0 _ hr ?_ ?_ ?_); exact rfl; exact rfl; intro W hnew ho; replace hq := hq.only ho (by omega); replace hr := hnew; replace hb := ho.bel _ _ (by omega) hb) | ((with_reducible refine st_ur (w.heap.size + 1) _ (withOv (withRx s zeroF) false) hq ?_ ?_ ?_); exact rfl; exact rfl; intro W hnew ho; replace hr := hr.only ho (by omega); replace hq := hnew; replace hb := ho.bel _ _ (by omega) hb))
  refine bodyPost_ret (results_cell_one Tryd.results15 _ _ (w.heap.size + 1) _ _ _ rfl hq Tryd.underlying26 rfl size_ur) rfl ?_
  exact ⟨rfl, hb⟩

set_option maxHeartbeats 1000000 in
theorem rwrite_2f3 (s : U) (ok : s.Ok) (v : Nat) (hv : v < 256) (hm : mayU s = true) (hd : dlB s = false) (h0 : decide (v / 2 % 2 = 1) = true) (h1 : decide (v / 4 % 2 = 1) = true) (w : World) :
    Calls Tryd.prog 15 #[.agg s.cells, .int .u32 ((2 : Nat) : Int), .int .u8 (v : Nat)] w fun e w' => e = .returned (.tuple #[.agg (writeV s 2 v).1.cells, .int .i64 ((writeV s 2 v).2 : Nat)]) ∧ Below w.heap.size w w' := by
  rw [show (((2 : Nat) : Int)) = 2 from rfl]
  have HV : writeV s 2 v = (withWt (withTx (withOv (withRx s zeroF) false) zeroF) 0, 0) := by unfold writeV writeS; rw [if_pos hm, if_neg (by decide), if_neg (by decide), if_pos rfl]; unfold empS empTx empRx; rw [if_pos (of_decide_eq_true h0)]; rw [if_pos (of_decide_eq_true h1)]
  rw [HV]; clear HV
  have HC := hide (fun w => rcheck_ok s ok hm w)
  have d1 : decide ((128 : Int) ≤ (s.lc : Int)) = false := by unfold dlB at hd; have := of_decide_eq_false hd; simp; omega
  have d2 : decide (128 ≤ s.lc) = false := hd
  have t0 : ((v : Int) / 2 % 2 == 1) = true := by rw [← h0, Bool.eq_iff_iff]; simp; omega
  have t0n : (v / 2 % 2 == 1) = true := by rw [← h0, Bool.eq_iff_iff]; simp
  have t1 : ((v : Int) / 4 % 2 == 1) = true := by rw [← h1, Bool.eq_iff_iff]; simp; omega
  have t1n : (v / 4 % 2 == 1) = true := by rw [← h1, Bool.eq_iff_iff]; simp
  clear h0 h1
  go_enter Tryd.func15, Tryd.ntmps15
  go_wp2_with (first | ((with_reducible refine bx_ur w.heap.size s ?_ ?_ ?_); exact rfl; exact rfl; intro W hr hb hz) | ((with_reducible refine al_ur (w.heap.size + 1) ?_ ?_); exact hz.out; intro W hq hb' hz'; replace hr := hr.bl (hz.out ▸ hb'); replace hb := hb.trans (hb'.mono (by omega)); replace hz := hz') | (go_at_call 8; (with_reducible refine (HC.out _).mono ?_); rintro e W ⟨rfl, hbc⟩; replace hr := hr.bl hbc; replace hq := hq.bl hbc; replace hb := below_bl rfl hb hbc) | ((with_reducible refine ld_ur w.heap.size _ hr ?_ ?_ ?_); exact rfl; exact rfl) | ((with_reducible refine ld_lc w.heap.size _ _ hr ?_ ?_); exact rfl) | ((with_reducible refine st_rxr w.heap.size _ zeroF _ hr ?_ ?_ ?_); exact rfl; exact rfl; intro W hnew ho; replace hq := hq.only ho (by omega); replace hr := hnew; replace hb := ho.bel _ _ (by omega) hb) | ((with_reducible refine st_ov w.heap.size _ false _ hr ?_ ?_ ?_); exact rfl; exact rfl; intro W hnew ho; replace hq := hq.only ho (by omega); replace hr := hnew; replace hb := ho.bel _ _ (by omega) hb) | ((with_reducible refine st_txr w.heap.size _ zeroF _ hr ?_ ?_ ?_); exact rfl; exact rfl; intro W hnew ho; replace hq := hq.only ho (by omega); replace hr := hnew; replace hb := ho.bel _ _ (by omega) hb) | ((with_reducible refine st_wt w.heap.size _ 0 _ hr ?_ ?_ ?_); exact rfl; exact rfl; intro W hnew ho; replace hq := hq.only ho (by omega); replace hr := hnew; replace hb := ho.bel _ _ (by omega) hb) | ((with_reducible refine st_ur (w.heap.size + 1) _ (withWt (withTx (withOv (withRx s zeroF) false) zeroF) 0) hq ?_ ?_ ?_); exact rfl; exact rfl; intro W hnew ho; replace hr := hr.only ho (by omega); replace hq := hnew; replace hb := ho.bel _ _ (by omega) hb))
  refine bodyPost_ret (results_cell_one Tryd.results15 _ _ (w.heap.size + 1) _ _ _ rfl hq Tryd.underlying26 rfl size_ur) rfl ?_
  exact ⟨rfl, hb⟩

set_option maxHeartbeats 1000000 in
theorem rwrite_nonef (s : U) (ok : s.Ok) (v : Nat) (hv : v < 256) (a : Nat) (ha : 7 < a) (hm : mayU s = true) (hd : dlB s = false) (w : World) :
    Calls Tryd.prog 15 #[.agg s.cells, .int .u32 (a : Nat), .int .u8 (v : Nat)] w fun e w' => e = .returned (.tuple #[.agg (writeV s a v).1.cells, .int .i64 ((writeV s a v).2 : Nat)]) ∧ Below w.heap.size w w' := by
  have HV : writeV s a v = (zeroU, 20) := by unfold writeV writeS; rw [if_pos hm, if_neg (by omega), if_neg (by omega), if_neg (by omega), if_neg (by omega), if_neg (by omega), if_neg (by omega), if_neg (by omega), if_neg (by omega)]
  rw [HV]; clear HV
  have t0 : ((a : Int) == 0) = false := by simp; omega
  have t1 : ((a : Int) == 1) = false := by simp; omega
  have t2 : ((a : Int) == 2) = false := by simp; omega
  have t3 : ((a : Int) == 3) = false := by simp; omega
  have t4 : ((a : Int) == 4) = false := by simp; omega
  have t5 : ((a : Int) == 5) = false := by simp; omega
  have t6 : ((a : Int) == 6) = false := by simp; omega
  have t7 : ((a : Int) == 7) = false := by simp; omega
  have HC := hide (fun w => rcheck_ok s ok hm w)
  have d1 : decide ((128 : Int) ≤ (s.lc : Int)) = false := by unfold dlB at hd; have := of_decide_eq_false hd; simp; omega
  have d2 : decide (128 ≤ s.lc) = false := hd
  go_enter Tryd.func15, Tryd.ntmps15
  go_wp2_with (first | ((with_reducible refine bx_ur w.heap.size s ?_ ?_ ?_); exact rfl; exact rfl; intro W hr hb hz) | ((with_reducible refine al_ur (w.heap.size + 1) ?_ ?_); exact hz.out; intro W hq hb' hz'; replace hr := hr.bl (hz.out ▸ hb'); replace hb := hb.trans (hb'.mono (by omega)); replace hz := hz') | (go_at_call 8; (with_reducible refine (HC.out _).mono ?_); rintro e W ⟨rfl, hbc⟩; replace hr := hr.bl hbc; replace hq := hq.bl hbc; replace hb := below_bl rfl hb hbc) | ((with_reducible refine ld_ur w.heap.size _ hr ?_ ?_ ?_); exact rfl; exact rfl) | ((with_reducible refine ld_lc w.heap.size _ _ hr ?_ ?_); exact rfl) | ((with_reducible refine st_ur (w.heap.size + 1) _ zeroU hq ?_ ?_ ?_); exact rfl; exact rfl; intro W hnew ho; replace hr := hr.only ho (by omega); replace hq := hnew; replace hb := ho.bel _ _ (by omega) hb))
  refine bodyPost_ret (results_cell_one Tryd.results15 _ _ (w.heap.size + 1) _ _ _ rfl hq Tryd.underlying26 rfl size_ur) rfl ?_
  exact ⟨rfl, hb⟩

theorem rwrite_any (s : U) (ok : s.Ok) (a v : Nat) (hv : v < 256) (w : World) :
    Calls Tryd.prog 15 #[.agg s.cells, .int .u32 (a : Nat), .int .u8 (v : Nat)] w fun e w' => e = .returned (.tuple #[.agg (writeV s a v).1.cells, .int .i64 ((writeV s a v).2 : Nat)]) ∧ Below w.heap.size w w' := by
  cases hm : mayU s with
  | false => exact rwrite_no s ok v hv a hm w
  | true =>
    have hf := ((mayU_iff s).1 hm).tx
    have g0 := mayF.n0 hf
    have g1 := mayF.n16 hf
    have h8 : 7 < a ∨ a = 0 ∨ a = 1 ∨ a = 2 ∨ a = 3 ∨ a = 4 ∨ a = 5 ∨ a = 6 ∨ a = 7 := by omega
    cases hd : dlB s with
    | true =>
      rcases h8 with h | rfl | rfl | rfl | rfl | rfl | rfl | rfl | rfl
      · exact rwrite_nonet s ok v hv a h hm hd w
      · exact rwrite_0t s ok v hv hm hd w
      · exact rwrite_1t s ok v hv hm hd w
      · cases h0 : decide (v / 2 % 2 = 1) <;> cases h1 : decide (v / 4 % 2 = 1)
        · exact rwrite_2t0 s ok v hv hm hd h0 h1 w
        · exact rwrite_2t1 s ok v hv hm hd h0 h1 w
        · exact rwrite_2t2 s ok v hv hm hd h0 h1 w
        · exact rwrite_2t3 s ok v hv hm hd h0 h1 w
      · exact rwrite_3t s ok v hv hm hd w
      · exact rwrite_4t s ok v hv hm hd w
      · exact rwrite_5t s ok v hv hm hd w
      · exact rwrite_6t s ok v hv hm hd w
      · exact rwrite_7t s ok v hv hm hd w
    | false =>
      rcases h8 with h | rfl | rfl | rfl | rfl | rfl | rfl | rfl | rfl
      · exact rwrite_nonef s ok v hv a h hm hd w
      · by_cases h : s.tx.n = 16
        · exact rwrite_0f s ok v hv hm hd h w
        · exact rwrite_0p s ok v hv hm hd g0 (by omega) w
      · exact rwrite_1f s ok v hv hm hd w
      · cases h0 : decide (v / 2 % 2 = 1) <;> cases h1 : decide (v / 4 % 2 = 1)
        · exact rwrite_2f0 s ok v hv hm hd h0 h1 w
        · exact rwrite_2f1 s ok v hv hm hd h0 h1 w
        · exact rwrite_2f2 s ok v hv hm hd h0 h1 w
        · exact rwrite_2f3 s ok v hv hm hd h0 h1 w
      · exact rwrite_3f s ok v hv hm hd w
      · exact rwrite_4f s ok v hv hm hd w
      · exact rwrite_5f s ok v hv hm hd w
      · exact rwrite_6f s ok v hv hm hd w
      · exact rwrite_7f s ok v hv hm hd w
end Go.Proofs.YthopfecjnbfnmaaDoor
