/-
  What uart's empty answers.
-/
import Derived.Test.YthopfecjnbfnmaaUaAsk
namespace Go.Proofs.Ythopfecjnbfnmaa
open Go.RowKit
set_option linter.unusedVariables false

set_option maxHeartbeats 1000000 in
theorem emp_c0 (s : U) (ok : s.Ok) (v : Nat) (h0 : decide (v / 2 % 2 = 1) = false) (h1 : decide (v / 4 % 2 = 1) = false) (hv : v < 256) (w : World) :
    Calls Try.prog 24 #[.agg s.cells, .int .u8 (v : Nat)] w fun e w' => e = .returned (.agg (empS s v).cells) ∧ Below w.heap.size w w' := by
  have t0 : (bits .and .u8 (v : Int) 2 != 0) = false := (and2 v hv).trans h0
  have t1 : (bits .and .u8 (v : Int) 4 != 0) = false := (and4 v hv).trans h1
  have HV : empS s v = s := by unfold empS empTx empRx; rw [if_neg (of_decide_eq_false h0)]; rw [if_neg (of_decide_eq_false h1)]
  rw [HV]; clear HV h0 h1
  go_enter Try.func24, Try.ntmps24
  go_wp2_with (first | ((with_reducible refine bx_up w.heap.size s ?_ ?_ ?_); exact rfl; exact rfl; intro W hr hb hz) | ((with_reducible refine al_up (w.heap.size + 1) ?_ ?_); exact hz.out; intro W hq hb' hz'; replace hr := hr.bl (hz.out ▸ hb'); replace hb := hb.trans (hb'.mono (by omega)); replace hz := hz') | ((with_reducible refine st_rxp w.heap.size _ zeroF _ hr ?_ ?_ ?_); exact rfl; exact rfl; intro W hnew ho; replace hq := hq.only ho (by omega); replace hr := hnew; replace hb := ho.bel _ _ (by omega) hb) | ((with_reducible refine st_ov w.heap.size _ false _ hr ?_ ?_ ?_); exact rfl; exact rfl; intro W hnew ho; replace hq := hq.only ho (by omega); replace hr := hnew; replace hb := ho.bel _ _ (by omega) hb) | ((with_reducible refine st_txp w.heap.size _ zeroF _ hr ?_ ?_ ?_); exact rfl; exact rfl; intro W hnew ho; replace hq := hq.only ho (by omega); replace hr := hnew; replace hb := ho.bel _ _ (by omega) hb) | ((with_reducible refine st_wt w.heap.size _ 0 _ hr ?_ ?_ ?_); exact rfl; exact rfl; intro W hnew ho; replace hq := hq.only ho (by omega); replace hr := hnew; replace hb := ho.bel _ _ (by omega) hb) | ((with_reducible refine ld_up w.heap.size _ hr ?_ ?_ ?_); exact rfl; exact rfl) | ((with_reducible refine st_up (w.heap.size + 1) _ s hq ?_ ?_ ?_); exact rfl; exact rfl; intro W hnew ho; replace hr := hr.only ho (by omega); replace hq := hnew; replace hb := ho.bel _ _ (by omega) hb))
  refine bodyPost_ret (results_cell_row Try.results24 _ _ (w.heap.size + 1) _ _ _ _ rfl hq Try.underlying29 rfl size_up) rfl ?_
  exact ⟨rfl, hb⟩

set_option maxHeartbeats 1000000 in
theorem emp_c1 (s : U) (ok : s.Ok) (v : Nat) (h0 : decide (v / 2 % 2 = 1) = false) (h1 : decide (v / 4 % 2 = 1) = true) (hv : v < 256) (w : World) :
    Calls Try.prog 24 #[.agg s.cells, .int .u8 (v : Nat)] w fun e w' => e = .returned (.agg (empS s v).cells) ∧ Below w.heap.size w w' := by
  have t0 : (bits .and .u8 (v : Int) 2 != 0) = false := (and2 v hv).trans h0
  have t1 : (bits .and .u8 (v : Int) 4 != 0) = true := (and4 v hv).trans h1
  have HV : empS s v = (withWt (withTx s zeroF) 0) := by unfold empS empTx empRx; rw [if_neg (of_decide_eq_false h0)]; rw [if_pos (of_decide_eq_true h1)]
  rw [HV]; clear HV h0 h1
  go_enter Try.func24, Try.ntmps24
  go_wp2_with (first | ((with_reducible refine bx_up w.heap.size s ?_ ?_ ?_); exact rfl; exact rfl; intro W hr hb hz) | ((with_reducible refine al_up (w.heap.size + 1) ?_ ?_); exact hz.out; intro W hq hb' hz'; replace hr := hr.bl (hz.out ▸ hb'); replace hb := hb.trans (hb'.mono (by omega)); replace hz := hz') | ((with_reducible refine st_rxp w.heap.size _ zeroF _ hr ?_ ?_ ?_); exact rfl; exact rfl; intro W hnew ho; replace hq := hq.only ho (by omega); replace hr := hnew; replace hb := ho.bel _ _ (by omega) hb) | ((with_reducible refine st_ov w.heap.size _ false _ hr ?_ ?_ ?_); exact rfl; exact rfl; intro W hnew ho; replace hq := hq.only ho (by omega); replace hr := hnew; replace hb := ho.bel _ _ (by omega) hb) | ((with_reducible refine st_txp w.heap.size _ zeroF _ hr ?_ ?_ ?_); exact rfl; exact rfl; intro W hnew ho; replace hq := hq.only ho (by omega); replace hr := hnew; replace hb := ho.bel _ _ (by omega) hb) | ((with_reducible refine st_wt w.heap.size _ 0 _ hr ?_ ?_ ?_); exact rfl; exact rfl; intro W hnew ho; replace hq := hq.only ho (by omega); replace hr := hnew; replace hb := ho.bel _ _ (by omega) hb) | ((with_reducible refine ld_up w.heap.size _ hr ?_ ?_ ?_); exact rfl; exact rfl) | ((with_reducible refine st_up (w.heap.size + 1) _ (withWt (withTx s zeroF) 0) hq ?_ ?_ ?_); exact rfl; exact rfl; intro W hnew ho; replace hr := hr.only ho (by omega); replace hq := hnew; replace hb := ho.bel _ _ (by omega) hb))
  refine bodyPost_ret (results_cell_row Try.results24 _ _ (w.heap.size + 1) _ _ _ _ rfl hq Try.underlying29 rfl size_up) rfl ?_
  exact ⟨rfl, hb⟩

set_option maxHeartbeats 1000000 in
theorem emp_c2 (s : U) (ok : s.Ok) (v : Nat) (h0 : decide (v / 2 % 2 = 1) = true) (h1 : decide (v / 4 % 2 = 1) = false) (hv : v < 256) (w : World) :
    Calls Try.prog 24 #[.agg s.cells, .int .u8 (v : Nat)] w fun e w' => e = .returned (.agg (empS s v).cells) ∧ Below w.heap.size w w' := by
  have t0 : (bits .and .u8 (v : Int) 2 != 0) = true := (and2 v hv).trans h0
  have t1 : (bits .and .u8 (v : Int) 4 != 0) = false := (and4 v hv).trans h1
  have HV : empS s v = (withOv (withRx s zeroF) false) := by unfold empS empTx empRx; rw [if_pos (of_decide_eq_true h0)]; rw [if_neg (of_decide_eq_false h1)]
  rw [HV]; clear HV h0 h1
  go_enter Try.func24, Try.ntmps24
  go_wp2_with (first | ((with_reducible refine bx_up w.heap.size s ?_ ?_ ?_); exact rfl; exact rfl; intro W hr hb hz) | ((with_reducible refine al_up (w.heap.size + 1) ?_ ?_); exact hz.out; intro W hq hb' hz'; replace hr := hr.bl (hz.out ▸ hb'); replace hb := hb.trans (hb'.mono (by omega)); replace hz := hz') | ((with_reducible refine st_rxp w.heap.size _ zeroF _ hr ?_ ?_ ?_); exact rfl; exact rfl; intro W hnew ho; replace hq := hq.only ho (by omega); replace hr := hnew; replace hb := ho.bel _ _ (by omega) hb) | ((with_reducible refine st_ov w.heap.size _ false _ hr ?_ ?_ ?_); exact rfl; exact rfl; intro W hnew ho; replace hq := hq.only ho (by omega); replace hr := hnew; replace hb := ho.bel _ _ (by omega) hb) | ((with_reducible refine st_txp w.heap.size _ zeroF _ hr ?_ ?_ ?_); exact rfl; exact rfl; intro W hnew ho; replace hq := hq.only ho (by omega); replace hr := hnew; replace hb := ho.bel _ _ (by omega) hb) | ((with_reducible refine st_wt w.heap.size _ 0 _ hr ?_ ?_ ?_); exact rfl; exact rfl; intro W hnew ho; replace hq := hq.only ho (by omega); replace hr := hnew; replace hb := ho.bel _ _ (by omega) hb) | ((with_reducible refine ld_up w.heap.size _ hr ?_ ?_ ?_); exact rfl; exact rfl) | ((with_reducible refine st_up (w.heap.size + 1) _ (withOv (withRx s zeroF) false) hq ?_ ?_ ?_); exact rfl; exact rfl; intro W hnew ho; replace hr := hr.only ho (by omega); replace hq := hnew; replace hb := ho.bel _ _ (by omega) hb))
  refine bodyPost_ret (results_cell_row Try.results24 _ _ (w.heap.size + 1) _ _ _ _ rfl hq Try.underlying29 rfl size_up) rfl ?_
  exact ⟨rfl, hb⟩

set_option maxHeartbeats 1000000 in
theorem emp_c3 (s : U) (ok : s.Ok) (v : Nat) (h0 : decide (v / 2 % 2 = 1) = true) (h1 : decide (v / 4 % 2 = 1) = true) (hv : v < 256) (w : World) :
    Calls Try.prog 24 #[.agg s.cells, .int .u8 (v : Nat)] w fun e w' => e = .returned (.agg (empS s v).cells) ∧ Below w.heap.size w w' := by
  have t0 : (bits .and .u8 (v : Int) 2 != 0) = true := (and2 v hv).trans h0
  have t1 : (bits .and .u8 (v : Int) 4 != 0) = true := (and4 v hv).trans h1
  have HV : empS s v = (withWt (withTx (withOv (withRx s zeroF) false) zeroF) 0) := by unfold empS empTx empRx; rw [if_pos (of_decide_eq_true h0)]; rw [if_pos (of_decide_eq_true h1)]
  rw [HV]; clear HV h0 h1
  go_enter Try.func24, Try.ntmps24
  go_wp2_with (first | ((with_reducible refine bx_up w.heap.size s ?_ ?_ ?_); exact rfl; exact rfl; intro W hr hb hz) | ((with_reducible refine al_up (w.heap.size + 1) ?_ ?_); exact hz.out; intro W hq hb' hz'; replace hr := hr.bl (hz.out ▸ hb'); replace hb := hb.trans (hb'.mono (by omega)); replace hz := hz') | ((with_reducible refine st_rxp w.heap.size _ zeroF _ hr ?_ ?_ ?_); exact rfl; exact rfl; intro W hnew ho; replace hq := hq.only ho (by omega); replace hr := hnew; replace hb := ho.bel _ _ (by omega) hb) | ((with_reducible refine st_ov w.heap.size _ false _ hr ?_ ?_ ?_); exact rfl; exact rfl; intro W hnew ho; replace hq := hq.only ho (by omega); replace hr := hnew; replace hb := ho.bel _ _ (by omega) hb) | ((with_reducible refine st_txp w.heap.size _ zeroF _ hr ?_ ?_ ?_); exact rfl; exact rfl; intro W hnew ho; replace hq := hq.only ho (by omega); replace hr := hnew; replace hb := ho.bel _ _ (by omega) hb) | ((with_reducible refine st_wt w.heap.size _ 0 _ hr ?_ ?_ ?_); exact rfl; exact rfl; intro W hnew ho; replace hq := hq.only ho (by omega); replace hr := hnew; replace hb := ho.bel _ _ (by omega) hb) | ((with_reducible refine ld_up w.heap.size _ hr ?_ ?_ ?_); exact rfl; exact rfl) | ((with_reducible refine st_up (w.heap.size + 1) _ (withWt (withTx (withOv (withRx s zeroF) false) zeroF) 0) hq ?_ ?_ ?_); exact rfl; exact rfl; intro W hnew ho; replace hr := hr.only ho (by omega); replace hq := hnew; replace hb := ho.bel _ _ (by omega) hb))
  refine bodyPost_ret (results_cell_row Try.results24 _ _ (w.heap.size + 1) _ _ _ _ rfl hq Try.underlying29 rfl size_up) rfl ?_
  exact ⟨rfl, hb⟩

theorem emp_any (s : U) (ok : s.Ok) (v : Nat) (hv : v < 256) (w : World) :
    Calls Try.prog 24 #[.agg s.cells, .int .u8 (v : Nat)] w fun e w' => e = .returned (.agg (empS s v).cells) ∧ Below w.heap.size w w' := by
  cases h0 : decide (v / 2 % 2 = 1) <;> cases h1 : decide (v / 4 % 2 = 1)
  · exact emp_c0 s ok v h0 h1 hv w
  · exact emp_c1 s ok v h0 h1 hv w
  · exact emp_c2 s ok v h0 h1 hv w
  · exact emp_c3 s ok v h0 h1 hv w
end Go.Proofs.Ythopfecjnbfnmaa
