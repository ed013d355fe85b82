/-
  What uart's Write answers.
-/
import Derived.Test.YthopfecjnbfnmaaUaCheck
import Derived.Test.YthopfecjnbfnmaaUaData
import Derived.Test.YthopfecjnbfnmaaUaEmp
namespace Go.Proofs.Ythopfecjnbfnmaa
open Go.RowKit
set_option linter.unusedVariables false

set_option maxHeartbeats 1000000 in
theorem write_no (s : U) (ok : s.Ok) (v : Nat) (hv : v < 256) (a : Nat) (hm : mayU s = false) (w : World) :
    Calls Try.prog 12 #[.agg s.cells, .int .u32 (a : Nat), .int .u8 (v : Nat)] w fun e w' => e = .returned (.tuple #[.agg (writeV s a v).1.cells, errP (writeV s a v).2]) ∧ Below w.heap.size w w' := by
  have HV : writeV s a v = (zeroU, 1) := by unfold writeV; rw [hm, if_neg (by decide)]
  rw [HV]; clear HV
  have HC := hide (fun w => check_no s ok hm w)
  go_enter Try.func12, Try.ntmps12
  go_wp2_with (first | ((with_reducible refine bx_up w.heap.size s ?_ ?_ ?_); exact rfl; exact rfl; intro W hr hb hz) | ((with_reducible refine al_up (w.heap.size + 1) ?_ ?_); exact hz.out; intro W hq hb' hz'; replace hr := hr.bl (hz.out ▸ hb'); replace hb := hb.trans (hb'.mono (by omega)); replace hz := hz') | (go_at_call 14; (with_reducible refine (HC.out _).mono ?_); rintro e W ⟨rfl, hbc⟩; replace hr := hr.bl hbc; replace hq := hq.bl hbc; replace hb := below_bl rfl hb hbc) | ((with_reducible refine ld_up w.heap.size _ hr ?_ ?_ ?_); exact rfl; exact rfl) | ((with_reducible refine st_up (w.heap.size + 1) _ zeroU hq ?_ ?_ ?_); exact rfl; exact rfl; intro W hnew ho; replace hr := hr.only ho (by omega); replace hq := hnew; replace hb := ho.bel _ _ (by omega) hb))
  refine bodyPost_ret (results_cell_one Try.results12 _ _ (w.heap.size + 1) _ _ _ rfl hq Try.underlying29 rfl size_up) rfl ?_
  exact ⟨rfl, hb⟩

set_option maxHeartbeats 1000000 in
theorem write_0 (s : U) (ok : s.Ok) (v : Nat) (hv : v < 256) (hm : mayU s = true) (w : World) :
    Calls Try.prog 12 #[.agg s.cells, .int .u32 ((0 : Nat) : Int), .int .u8 (v : Nat)] w fun e w' => e = .returned (.tuple #[.agg (writeV s 0 v).1.cells, errP (writeV s 0 v).2]) ∧ Below w.heap.size w w' := by
  rw [show (((0 : Nat) : Int)) = 0 from rfl]
  have HV : writeV s 0 v = (dataW s v, 0) := by unfold writeV writeS; rw [if_pos hm, if_pos rfl]
  rw [HV]; clear HV
  have HC := hide (fun w => check_ok s ok hm w)
  have HD := hide (fun w => wdata_any s ok v ((mayU_iff s).1 hm).tx w)
  generalize dataW s v = z at HD ⊢
  go_enter Try.func12, Try.ntmps12
  go_wp2_with (first | ((with_reducible refine bx_up w.heap.size s ?_ ?_ ?_); exact rfl; exact rfl; intro W hr hb hz) | ((with_reducible refine al_up (w.heap.size + 1) ?_ ?_); exact hz.out; intro W hq hb' hz'; replace hr := hr.bl (hz.out ▸ hb'); replace hb := hb.trans (hb'.mono (by omega)); replace hz := hz') | (go_at_call 14; (with_reducible refine (HC.out _).mono ?_); rintro e W ⟨rfl, hbc⟩; replace hr := hr.bl hbc; replace hq := hq.bl hbc; replace hb := below_bl rfl hb hbc) | ((with_reducible refine ld_up w.heap.size _ hr ?_ ?_ ?_); exact rfl; exact rfl) | (go_at_call 22; (with_reducible refine (HD.out _).mono ?_); rintro e W ⟨rfl, hbc⟩; replace hr := hr.bl hbc; replace hq := hq.bl hbc; replace hb := below_bl rfl hb hbc) | ((with_reducible refine st_up w.heap.size _ z hr ?_ ?_ ?_); exact rfl; exact rfl; intro W hnew ho; replace hq := hq.only ho (by omega); replace hr := hnew; replace hb := ho.bel _ _ (by omega) hb) | ((with_reducible refine st_up (w.heap.size + 1) _ z hq ?_ ?_ ?_); exact rfl; exact rfl; intro W hnew ho; replace hr := hr.only ho (by omega); replace hq := hnew; replace hb := ho.bel _ _ (by omega) hb))
  refine bodyPost_ret (results_cell_one Try.results12 _ _ (w.heap.size + 1) _ _ _ rfl hq Try.underlying29 rfl size_up) rfl ?_
  exact ⟨rfl, hb⟩

set_option maxHeartbeats 1000000 in
theorem write_2 (s : U) (ok : s.Ok) (v : Nat) (hv : v < 256) (hm : mayU s = true) (w : World) :
    Calls Try.prog 12 #[.agg s.cells, .int .u32 ((2 : Nat) : Int), .int .u8 (v : Nat)] w fun e w' => e = .returned (.tuple #[.agg (writeV s 2 v).1.cells, errP (writeV s 2 v).2]) ∧ Below w.heap.size w w' := by
  rw [show (((2 : Nat) : Int)) = 2 from rfl]
  have HV : writeV s 2 v = (empS s v, 0) := by unfold writeV writeS; rw [if_pos hm, if_neg (by decide), if_neg (by decide), if_pos rfl]
  rw [HV]; clear HV
  have HC := hide (fun w => check_ok s ok hm w)
  have HD := hide (fun w => emp_any s ok v hv w)
  generalize empS s v = z at HD ⊢
  go_enter Try.func12, Try.ntmps12
  go_wp2_with (first | ((with_reducible refine bx_up w.heap.size s ?_ ?_ ?_); exact rfl; exact rfl; intro W hr hb hz) | ((with_reducible refine al_up (w.heap.size + 1) ?_ ?_); exact hz.out; intro W hq hb' hz'; replace hr := hr.bl (hz.out ▸ hb'); replace hb := hb.trans (hb'.mono (by omega)); replace hz := hz') | (go_at_call 14; (with_reducible refine (HC.out _).mono ?_); rintro e W ⟨rfl, hbc⟩; replace hr := hr.bl hbc; replace hq := hq.bl hbc; replace hb := below_bl rfl hb hbc) | ((with_reducible refine ld_up w.heap.size _ hr ?_ ?_ ?_); exact rfl; exact rfl) | (go_at_call 24; (with_reducible refine (HD.out _).mono ?_); rintro e W ⟨rfl, hbc⟩; replace hr := hr.bl hbc; replace hq := hq.bl hbc; replace hb := below_bl rfl hb hbc) | ((with_reducible refine st_up w.heap.size _ z hr ?_ ?_ ?_); exact rfl; exact rfl; intro W hnew ho; replace hq := hq.only ho (by omega); replace hr := hnew; replace hb := ho.bel _ _ (by omega) hb) | ((with_reducible refine st_up (w.heap.size + 1) _ z hq ?_ ?_ ?_); exact rfl; exact rfl; intro W hnew ho; replace hr := hr.only ho (by omega); replace hq := hnew; replace hb := ho.bel _ _ (by omega) hb))
  refine bodyPost_ret (results_cell_one Try.results12 _ _ (w.heap.size + 1) _ _ _ rfl hq Try.underlying29 rfl size_up) rfl ?_
  exact ⟨rfl, hb⟩

set_option maxHeartbeats 1000000 in
theorem write_1t (s : U) (ok : s.Ok) (v : Nat) (hv : v < 256) (hm : mayU s = true) (hd : dlB s = true) (w : World) :
    Calls Try.prog 12 #[.agg s.cells, .int .u32 ((1 : Nat) : Int), .int .u8 (v : Nat)] w fun e w' => e = .returned (.tuple #[.agg (writeV s 1 v).1.cells, errP (writeV s 1 v).2]) ∧ Below w.heap.size w w' := by
  rw [show (((1 : Nat) : Int)) = 1 from rfl]
  have HV : writeV s 1 v = (withDm s v, 0) := by unfold writeV writeS; rw [if_pos hm, if_neg (by decide), if_pos rfl]; rw [if_pos hd]
  rw [HV]; clear HV
  have HC := hide (fun w => check_ok s ok hm w)
  have HD := hide (fun w => div_any s ok w)
  rw [hd] at HD
  go_enter Try.func12, Try.ntmps12
  go_wp2_with (first | ((with_reducible refine bx_up w.heap.size s ?_ ?_ ?_); exact rfl; exact rfl; intro W hr hb hz) | ((with_reducible refine al_up (w.heap.size + 1) ?_ ?_); exact hz.out; intro W hq hb' hz'; replace hr := hr.bl (hz.out ▸ hb'); replace hb := hb.trans (hb'.mono (by omega)); replace hz := hz') | (go_at_call 14; (with_reducible refine (HC.out _).mono ?_); rintro e W ⟨rfl, hbc⟩; replace hr := hr.bl hbc; replace hq := hq.bl hbc; replace hb := below_bl rfl hb hbc) | ((with_reducible refine ld_up w.heap.size _ hr ?_ ?_ ?_); exact rfl; exact rfl) | (go_at_call 23; (with_reducible refine (HD.out _).mono ?_); rintro e W ⟨rfl, hbc⟩; replace hr := hr.bl hbc; replace hq := hq.bl hbc; replace hb := below_bl rfl hb hbc) | ((with_reducible refine st_dm w.heap.size _ v _ hr ?_ ?_ ?_); exact rfl; exact rfl; intro W hnew ho; replace hq := hq.only ho (by omega); replace hr := hnew; replace hb := ho.bel _ _ (by omega) hb) | ((with_reducible refine st_up (w.heap.size + 1) _ (withDm s v) hq ?_ ?_ ?_); exact rfl; exact rfl; intro W hnew ho; replace hr := hr.only ho (by omega); replace hq := hnew; replace hb := ho.bel _ _ (by omega) hb))
  refine bodyPost_ret (results_cell_one Try.results12 _ _ (w.heap.size + 1) _ _ _ rfl hq Try.underlying29 rfl size_up) rfl ?_
  exact ⟨rfl, hb⟩

set_option maxHeartbeats 1000000 in
theorem write_1f (s : U) (ok : s.Ok) (v : Nat) (hv : v < 256) (hm : mayU s = true) (hd : dlB s = false) (w : World) :
    Calls Try.prog 12 #[.agg s.cells, .int .u32 ((1 : Nat) : Int), .int .u8 (v : Nat)] w fun e w' => e = .returned (.tuple #[.agg (writeV s 1 v).1.cells, errP (writeV s 1 v).2]) ∧ Below w.heap.size w w' := by
  rw [show (((1 : Nat) : Int)) = 1 from rfl]
  have HV : writeV s 1 v = (withIe s (v % 8), 0) := by unfold writeV writeS; rw [if_pos hm, if_neg (by decide), if_pos rfl]; rw [hd, if_neg (by decide)]
  rw [HV]; clear HV
  have HC := hide (fun w => check_ok s ok hm w)
  have HD := hide (fun w => div_any s ok w)
  rw [hd] at HD
  go_enter Try.func12, Try.ntmps12
  go_wp2_with (first | ((with_reducible refine bx_up w.heap.size s ?_ ?_ ?_); exact rfl; exact rfl; intro W hr hb hz) | ((with_reducible refine al_up (w.heap.size + 1) ?_ ?_); exact hz.out; intro W hq hb' hz'; replace hr := hr.bl (hz.out ▸ hb'); replace hb := hb.trans (hb'.mono (by omega)); replace hz := hz') | (go_at_call 14; (with_reducible refine (HC.out _).mono ?_); rintro e W ⟨rfl, hbc⟩; replace hr := hr.bl hbc; replace hq := hq.bl hbc; replace hb := below_bl rfl hb hbc) | ((with_reducible refine ld_up w.heap.size _ hr ?_ ?_ ?_); exact rfl; exact rfl) | (go_at_call 23; (with_reducible refine (HD.out _).mono ?_); rintro e W ⟨rfl, hbc⟩; replace hr := hr.bl hbc; replace hq := hq.bl hbc; replace hb := below_bl rfl hb hbc) | ((with_reducible refine st_ie w.heap.size _ (v % 8) _ hr ?_ ?_ ?_); exact rfl; exact rfl; intro W hnew ho; replace hq := hq.only ho (by omega); replace hr := hnew; replace hb := ho.bel _ _ (by omega) hb) | ((with_reducible refine st_up (w.heap.size + 1) _ (withIe s (v % 8)) hq ?_ ?_ ?_); exact rfl; exact rfl; intro W hnew ho; replace hr := hr.only ho (by omega); replace hq := hnew; replace hb := ho.bel _ _ (by omega) hb))
  refine bodyPost_ret (results_cell_one Try.results12 _ _ (w.heap.size + 1) _ _ _ rfl hq Try.underlying29 rfl size_up) rfl ?_
  exact ⟨rfl, hb⟩

set_option maxHeartbeats 1000000 in
theorem write_3 (s : U) (ok : s.Ok) (v : Nat) (hv : v < 256) (hm : mayU s = true) (w : World) :
    Calls Try.prog 12 #[.agg s.cells, .int .u32 ((3 : Nat) : Int), .int .u8 (v : Nat)] w fun e w' => e = .returned (.tuple #[.agg (writeV s 3 v).1.cells, errP (writeV s 3 v).2]) ∧ Below w.heap.size w w' := by
  rw [show (((3 : Nat) : Int)) = 3 from rfl]
  have HV : writeV s 3 v = (withLc s v, 0) := by unfold writeV writeS; rw [if_pos hm, if_neg (by decide), if_neg (by decide), if_neg (by decide), if_pos rfl]
  rw [HV]; clear HV
  have HC := hide (fun w => check_ok s ok hm w)
  go_enter Try.func12, Try.ntmps12
  go_wp2_with (first | ((with_reducible refine bx_up w.heap.size s ?_ ?_ ?_); exact rfl; exact rfl; intro W hr hb hz) | ((with_reducible refine al_up (w.heap.size + 1) ?_ ?_); exact hz.out; intro W hq hb' hz'; replace hr := hr.bl (hz.out ▸ hb'); replace hb := hb.trans (hb'.mono (by omega)); replace hz := hz') | (go_at_call 14; (with_reducible refine (HC.out _).mono ?_); rintro e W ⟨rfl, hbc⟩; replace hr := hr.bl hbc; replace hq := hq.bl hbc; replace hb := below_bl rfl hb hbc) | ((with_reducible refine ld_up w.heap.size _ hr ?_ ?_ ?_); exact rfl; exact rfl) | ((with_reducible refine st_lc w.heap.size _ v _ hr ?_ ?_ ?_); exact rfl; exact rfl; intro W hnew ho; replace hq := hq.only ho (by omega); replace hr := hnew; replace hb := ho.bel _ _ (by omega) hb) | ((with_reducible refine st_up (w.heap.size + 1) _ (withLc s v) hq ?_ ?_ ?_); exact rfl; exact rfl; intro W hnew ho; replace hr := hr.only ho (by omega); replace hq := hnew; replace hb := ho.bel _ _ (by omega) hb))
  refine bodyPost_ret (results_cell_one Try.results12 _ _ (w.heap.size + 1) _ _ _ rfl hq Try.underlying29 rfl size_up) rfl ?_
  exact ⟨rfl, hb⟩

set_option maxHeartbeats 1000000 in
theorem write_4 (s : U) (ok : s.Ok) (v : Nat) (hv : v < 256) (hm : mayU s = true) (w : World) :
    Calls Try.prog 12 #[.agg s.cells, .int .u32 ((4 : Nat) : Int), .int .u8 (v : Nat)] w fun e w' => e = .returned (.tuple #[.agg (writeV s 4 v).1.cells, errP (writeV s 4 v).2]) ∧ Below w.heap.size w w' := by
  rw [show (((4 : Nat) : Int)) = 4 from rfl]
  have HV : writeV s 4 v = (withMc s (v % 32), 0) := by unfold writeV writeS; rw [if_pos hm, if_neg (by decide), if_neg (by decide), if_neg (by decide), if_neg (by decide), if_pos rfl]
  rw [HV]; clear HV
  have HC := hide (fun w => check_ok s ok hm w)
  go_enter Try.func12, Try.ntmps12
  go_wp2_with (first | ((with_reducible refine bx_up w.heap.size s ?_ ?_ ?_); exact rfl; exact rfl; intro W hr hb hz) | ((with_reducible refine al_up (w.heap.size + 1) ?_ ?_); exact hz.out; intro W hq hb' hz'; replace hr := hr.bl (hz.out ▸ hb'); replace hb := hb.trans (hb'.mono (by omega)); replace hz := hz') | (go_at_call 14; (with_reducible refine (HC.out _).mono ?_); rintro e W ⟨rfl, hbc⟩; replace hr := hr.bl hbc; replace hq := hq.bl hbc; replace hb := below_bl rfl hb hbc) | ((with_reducible refine ld_up w.heap.size _ hr ?_ ?_ ?_); exact rfl; exact rfl) | ((with_reducible refine st_mc w.heap.size _ (v % 32) _ hr ?_ ?_ ?_); exact rfl; exact rfl; intro W hnew ho; replace hq := hq.only ho (by omega); replace hr := hnew; replace hb := ho.bel _ _ (by omega) hb) | ((with_reducible refine st_up (w.heap.size + 1) _ (withMc s (v % 32)) hq ?_ ?_ ?_); exact rfl; exact rfl; intro W hnew ho; replace hr := hr.only ho (by omega); replace hq := hnew; replace hb := ho.bel _ _ (by omega) hb))
  refine bodyPost_ret (results_cell_one Try.results12 _ _ (w.heap.size + 1) _ _ _ rfl hq Try.underlying29 rfl size_up) rfl ?_
  exact ⟨rfl, hb⟩

set_option maxHeartbeats 1000000 in
theorem write_7 (s : U) (ok : s.Ok) (v : Nat) (hv : v < 256) (hm : mayU s = true) (w : World) :
    Calls Try.prog 12 #[.agg s.cells, .int .u32 ((7 : Nat) : Int), .int .u8 (v : Nat)] w fun e w' => e = .returned (.tuple #[.agg (writeV s 7 v).1.cells, errP (writeV s 7 v).2]) ∧ Below w.heap.size w w' := by
  rw [show (((7 : Nat) : Int)) = 7 from rfl]
  have HV : writeV s 7 v = (withSc s v, 0) := by unfold writeV writeS; rw [if_pos hm, if_neg (by decide), if_neg (by decide), if_neg (by decide), if_neg (by decide), if_neg (by decide), if_neg (by decide), if_neg (by decide), if_pos rfl]
  rw [HV]; clear HV
  have HC := hide (fun w => check_ok s ok hm w)
  go_enter Try.func12, Try.ntmps12
  go_wp2_with (first | ((with_reducible refine bx_up w.heap.size s ?_ ?_ ?_); exact rfl; exact rfl; intro W hr hb hz) | ((with_reducible refine al_up (w.heap.size + 1) ?_ ?_); exact hz.out; intro W hq hb' hz'; replace hr := hr.bl (hz.out ▸ hb'); replace hb := hb.trans (hb'.mono (by omega)); replace hz := hz') | (go_at_call 14; (with_reducible refine (HC.out _).mono ?_); rintro e W ⟨rfl, hbc⟩; replace hr := hr.bl hbc; replace hq := hq.bl hbc; replace hb := below_bl rfl hb hbc) | ((with_reducible refine ld_up w.heap.size _ hr ?_ ?_ ?_); exact rfl; exact rfl) | ((with_reducible refine st_sc w.heap.size _ v _ hr ?_ ?_ ?_); exact rfl; exact rfl; intro W hnew ho; replace hq := hq.only ho (by omega); replace hr := hnew; replace hb := ho.bel _ _ (by omega) hb) | ((with_reducible refine st_up (w.heap.size + 1) _ (withSc s v) hq ?_ ?_ ?_); exact rfl; exact rfl; intro W hnew ho; replace hr := hr.only ho (by omega); replace hq := hnew; replace hb := ho.bel _ _ (by omega) hb))
  refine bodyPost_ret (results_cell_one Try.results12 _ _ (w.heap.size + 1) _ _ _ rfl hq Try.underlying29 rfl size_up) rfl ?_
  exact ⟨rfl, hb⟩

set_option maxHeartbeats 1000000 in
theorem write_5 (s : U) (ok : s.Ok) (v : Nat) (hv : v < 256) (hm : mayU s = true) (w : World) :
    Calls Try.prog 12 #[.agg s.cells, .int .u32 ((5 : Nat) : Int), .int .u8 (v : Nat)] w fun e w' => e = .returned (.tuple #[.agg (writeV s 5 v).1.cells, errP (writeV s 5 v).2]) ∧ Below w.heap.size w w' := by
  rw [show (((5 : Nat) : Int)) = 5 from rfl]
  have HV : writeV s 5 v = (s, 0) := by unfold writeV writeS; rw [if_pos hm, if_neg (by decide), if_neg (by decide), if_neg (by decide), if_neg (by decide), if_neg (by decide), if_pos rfl]
  rw [HV]; clear HV
  have HC := hide (fun w => check_ok s ok hm w)
  go_enter Try.func12, Try.ntmps12
  go_wp2_with (first | ((with_reducible refine bx_up w.heap.size s ?_ ?_ ?_); exact rfl; exact rfl; intro W hr hb hz) | ((with_reducible refine al_up (w.heap.size + 1) ?_ ?_); exact hz.out; intro W hq hb' hz'; replace hr := hr.bl (hz.out ▸ hb'); replace hb := hb.trans (hb'.mono (by omega)); replace hz := hz') | (go_at_call 14; (with_reducible refine (HC.out _).mono ?_); rintro e W ⟨rfl, hbc⟩; replace hr := hr.bl hbc; replace hq := hq.bl hbc; replace hb := below_bl rfl hb hbc) | ((with_reducible refine ld_up w.heap.size _ hr ?_ ?_ ?_); exact rfl; exact rfl) | ((with_reducible refine st_up (w.heap.size + 1) _ s hq ?_ ?_ ?_); exact rfl; exact rfl; intro W hnew ho; replace hr := hr.only ho (by omega); replace hq := hnew; replace hb := ho.bel _ _ (by omega) hb))
  refine bodyPost_ret (results_cell_one Try.results12 _ _ (w.heap.size + 1) _ _ _ rfl hq Try.underlying29 rfl size_up) rfl ?_
  exact ⟨rfl, hb⟩

set_option maxHeartbeats 1000000 in
theorem write_6 (s : U) (ok : s.Ok) (v : Nat) (hv : v < 256) (hm : mayU s = true) (w : World) :
    Calls Try.prog 12 #[.agg s.cells, .int .u32 ((6 : Nat) : Int), .int .u8 (v : Nat)] w fun e w' => e = .returned (.tuple #[.agg (writeV s 6 v).1.cells, errP (writeV s 6 v).2]) ∧ Below w.heap.size w w' := by
  rw [show (((6 : Nat) : Int)) = 6 from rfl]
  have HV : writeV s 6 v = (s, 0) := by unfold writeV writeS; rw [if_pos hm, if_neg (by decide), if_neg (by decide), if_neg (by decide), if_neg (by decide), if_neg (by decide), if_neg (by decide), if_pos rfl]
  rw [HV]; clear HV
  have HC := hide (fun w => check_ok s ok hm w)
  go_enter Try.func12, Try.ntmps12
  go_wp2_with (first | ((with_reducible refine bx_up w.heap.size s ?_ ?_ ?_); exact rfl; exact rfl; intro W hr hb hz) | ((with_reducible refine al_up (w.heap.size + 1) ?_ ?_); exact hz.out; intro W hq hb' hz'; replace hr := hr.bl (hz.out ▸ hb'); replace hb := hb.trans (hb'.mono (by omega)); replace hz := hz') | (go_at_call 14; (with_reducible refine (HC.out _).mono ?_); rintro e W ⟨rfl, hbc⟩; replace hr := hr.bl hbc; replace hq := hq.bl hbc; replace hb := below_bl rfl hb hbc) | ((with_reducible refine ld_up w.heap.size _ hr ?_ ?_ ?_); exact rfl; exact rfl) | ((with_reducible refine st_up (w.heap.size + 1) _ s hq ?_ ?_ ?_); exact rfl; exact rfl; intro W hnew ho; replace hr := hr.only ho (by omega); replace hq := hnew; replace hb := ho.bel _ _ (by omega) hb))
  refine bodyPost_ret (results_cell_one Try.results12 _ _ (w.heap.size + 1) _ _ _ rfl hq Try.underlying29 rfl size_up) rfl ?_
  exact ⟨rfl, hb⟩

set_option maxHeartbeats 1000000 in
theorem write_none (s : U) (ok : s.Ok) (v : Nat) (hv : v < 256) (a : Nat) (ha : 7 < a) (hm : mayU s = true) (w : World) :
    Calls Try.prog 12 #[.agg s.cells, .int .u32 (a : Nat), .int .u8 (v : Nat)] w fun e w' => e = .returned (.tuple #[.agg (writeV s a v).1.cells, errP (writeV s a v).2]) ∧ Below w.heap.size w w' := by
  have HV : writeV s a v = (zeroU, 20) := by unfold writeV writeS; rw [if_pos hm, if_neg (by omega), if_neg (by omega), if_neg (by omega), if_neg (by omega), if_neg (by omega), if_neg (by omega), if_neg (by omega), if_neg (by omega)]
  rw [HV]; clear HV
  have t0 : ((a : Int) == 0) = false := by simp; omega
  have t1 : ((a : Int) == 1) = false := by simp; omega
  have t2 : ((a : Int) == 2) = false := by simp; omega
  have t3 : ((a : Int) == 3) = false := by simp; omega
  have t4 : ((a : Int) == 4) = false := by simp; omega
  have t5 : ((a : Int) == 5) = false := by simp; omega
  have t6 : ((a : Int) == 6) = false := by simp; omega
  have t7 : ((a : Int) == 7) = false := by simp; omega
  have HC := hide (fun w => check_ok s ok hm w)
  go_enter Try.func12, Try.ntmps12
  go_wp2_with (first | ((with_reducible refine bx_up w.heap.size s ?_ ?_ ?_); exact rfl; exact rfl; intro W hr hb hz) | ((with_reducible refine al_up (w.heap.size + 1) ?_ ?_); exact hz.out; intro W hq hb' hz'; replace hr := hr.bl (hz.out ▸ hb'); replace hb := hb.trans (hb'.mono (by omega)); replace hz := hz') | (go_at_call 14; (with_reducible refine (HC.out _).mono ?_); rintro e W ⟨rfl, hbc⟩; replace hr := hr.bl hbc; replace hq := hq.bl hbc; replace hb := below_bl rfl hb hbc) | ((with_reducible refine ld_up w.heap.size _ hr ?_ ?_ ?_); exact rfl; exact rfl) | ((with_reducible refine st_up (w.heap.size + 1) _ zeroU hq ?_ ?_ ?_); exact rfl; exact rfl; intro W hnew ho; replace hr := hr.only ho (by omega); replace hq := hnew; replace hb := ho.bel _ _ (by omega) hb))
  refine bodyPost_ret (results_cell_one Try.results12 _ _ (w.heap.size + 1) _ _ _ rfl hq Try.underlying29 rfl size_up) rfl ?_
  exact ⟨rfl, hb⟩

theorem write_any (s : U) (ok : s.Ok) (a v : Nat) (hv : v < 256) (w : World) :
    Calls Try.prog 12 #[.agg s.cells, .int .u32 (a : Nat), .int .u8 (v : Nat)] w fun e w' => e = .returned (.tuple #[.agg (writeV s a v).1.cells, errP (writeV s a v).2]) ∧ Below w.heap.size w w' := by
  cases hm : mayU s with
  | false => exact write_no s ok v hv a hm w
  | true =>
    by_cases h : 7 < a
    · exact write_none s ok v hv a h hm w
    have h8 : a = 0 ∨ a = 1 ∨ a = 2 ∨ a = 3 ∨ a = 4 ∨ a = 5 ∨ a = 6 ∨ a = 7 := by omega
    rcases h8 with rfl | rfl | rfl | rfl | rfl | rfl | rfl | rfl
    · exact write_0 s ok v hv hm w
    · cases hd : dlB s with
      | true => exact write_1t s ok v hv hm hd w
      | false => exact write_1f s ok v hv hm hd w
    · exact write_2 s ok v hv hm w
    · exact write_3 s ok v hv hm w
    · exact write_4 s ok v hv hm w
    · exact write_5 s ok v hv hm w
    · exact write_6 s ok v hv hm w
    · exact write_7 s ok v hv hm w
end Go.Proofs.Ythopfecjnbfnmaa
