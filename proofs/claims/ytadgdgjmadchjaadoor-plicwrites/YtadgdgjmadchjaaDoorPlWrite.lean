/-
  What plic.Write answers.
-/
import Derived.Test.YtadgdgjmadchjaaDoorPlRead
namespace Go.Proofs.YtadgdgjmadchjaaDoor
open Go.RowKit
set_option linter.unusedVariables false

set_option maxHeartbeats 1000000 in
theorem write_pr0 (s : P5) (v : Nat) (hv : v < 4294967296) (w : World) :
    Calls Tryd.prog 13 #[.agg s.cells, .int .u32 ((0 : Nat) : Int), .int .u32 (v : Nat)] w fun e w' => e = .returned (.tuple #[.agg (writeV s 0 v).1.cells, errP (writeV s 0 v).2]) ∧ Below w.heap.size w w' := by
  rw [show (((0 : Nat) : Int)) = 0 from rfl]
  have HI := hide (fun w => isPr_any 0 w)
  rw [show isPr 0 = true from by decide, show (((0 : Nat) : Int)) = 0 from rfl] at HI
  go_enter Tryd.func13, Tryd.ntmps13
  go_wp2_with (first | ((with_reducible refine bx_p w.heap.size s ?_ ?_ ?_); exact rfl; exact rfl; intro W hr hb hz) | ((with_reducible refine al_p (w.heap.size + 1) ?_ ?_); exact hz.out; intro W hq hb' hz'; replace hr := hr.bl (hz.out ▸ hb'); replace hb := hb.trans (hb'.mono (by omega)); replace hz := hz') | (go_at_call 15; refine (HI.out _).mono ?_; rintro e W2 ⟨rfl, rfl⟩) | ((with_reducible refine ld_p w.heap.size _ hr ?_ ?_); exact rfl) | ((with_reducible refine st_p (w.heap.size + 1) _ s hq ?_ ?_ ?_); exact rfl; exact rfl; intro W hnew ho; replace hr := hr.only ho (by omega); replace hq := hnew; replace hb := ho.bel _ _ (by omega) hb))
  refine bodyPost_ret (results_cell_one Tryd.results13 _ _ (w.heap.size + 1) _ _ _ rfl hq Tryd.underlying26 rfl size_p) rfl ?_
  exact ⟨rfl, hb⟩

set_option maxHeartbeats 1000000 in
theorem write_pr1 (s : P5) (v : Nat) (hv : v < 4294967296) (w : World) :
    Calls Tryd.prog 13 #[.agg s.cells, .int .u32 ((4 : Nat) : Int), .int .u32 (v : Nat)] w fun e w' => e = .returned (.tuple #[.agg (writeV s 4 v).1.cells, errP (writeV s 4 v).2]) ∧ Below w.heap.size w w' := by
  rw [show (((4 : Nat) : Int)) = 4 from rfl]
  have HI := hide (fun w => isPr_any 4 w)
  rw [show isPr 4 = true from by decide, show (((4 : Nat) : Int)) = 4 from rfl] at HI
  have E7 : Hid (Value.int .u32 (bits .and .u32 (v : Int) 7) = .int .u32 ((v &&& 7 : Nat) : Int)) := hide (congrArg _ (u32_and_nat v 7 hv (by decide)))
  go_enter Tryd.func13, Tryd.ntmps13
  go_wp2_with (first | ((with_reducible refine bx_p w.heap.size s ?_ ?_ ?_); exact rfl; exact rfl; intro W hr hb hz) | ((with_reducible refine al_p (w.heap.size + 1) ?_ ?_); exact hz.out; intro W hq hb' hz'; replace hr := hr.bl (hz.out ▸ hb'); replace hb := hb.trans (hb'.mono (by omega)); replace hz := hz') | (go_at_call 15; refine (HI.out _).mono ?_; rintro e W2 ⟨rfl, rfl⟩) | ((with_reducible refine st_pr w.heap.size 1 s (v &&& 7) _ (by decide) hr ?_ ?_ ?_); exact rfl; exact E7.out; intro W hnew ho; replace hq := hq.only ho (by omega); replace hr := hnew; replace hb := ho.bel _ _ (by omega) hb) | ((with_reducible refine ld_p w.heap.size _ hr ?_ ?_); exact rfl) | ((with_reducible refine st_p (w.heap.size + 1) _ ⟨setN s.pr 1 (v &&& 7), s.en, s.th, s.pe, s.bu⟩ hq ?_ ?_ ?_); exact rfl; exact rfl; intro W hnew ho; replace hr := hr.only ho (by omega); replace hq := hnew; replace hb := ho.bel _ _ (by omega) hb))
  refine bodyPost_ret (results_cell_one Tryd.results13 _ _ (w.heap.size + 1) _ _ _ rfl hq Tryd.underlying26 rfl size_p) rfl ?_
  exact ⟨rfl, hb⟩

set_option maxHeartbeats 1000000 in
theorem write_pr2 (s : P5) (v : Nat) (hv : v < 4294967296) (w : World) :
    Calls Tryd.prog 13 #[.agg s.cells, .int .u32 ((8 : Nat) : Int), .int .u32 (v : Nat)] w fun e w' => e = .returned (.tuple #[.agg (writeV s 8 v).1.cells, errP (writeV s 8 v).2]) ∧ Below w.heap.size w w' := by
  rw [show (((8 : Nat) : Int)) = 8 from rfl]
  have HI := hide (fun w => isPr_any 8 w)
  rw [show isPr 8 = true from by decide, show (((8 : Nat) : Int)) = 8 from rfl] at HI
  have E7 : Hid (Value.int .u32 (bits .and .u32 (v : Int) 7) = .int .u32 ((v &&& 7 : Nat) : Int)) := hide (congrArg _ (u32_and_nat v 7 hv (by decide)))
  go_enter Tryd.func13, Tryd.ntmps13
  go_wp2_with (first | ((with_reducible refine bx_p w.heap.size s ?_ ?_ ?_); exact rfl; exact rfl; intro W hr hb hz) | ((with_reducible refine al_p (w.heap.size + 1) ?_ ?_); exact hz.out; intro W hq hb' hz'; replace hr := hr.bl (hz.out ▸ hb'); replace hb := hb.trans (hb'.mono (by omega)); replace hz := hz') | (go_at_call 15; refine (HI.out _).mono ?_; rintro e W2 ⟨rfl, rfl⟩) | ((with_reducible refine st_pr w.heap.size 2 s (v &&& 7) _ (by decide) hr ?_ ?_ ?_); exact rfl; exact E7.out; intro W hnew ho; replace hq := hq.only ho (by omega); replace hr := hnew; replace hb := ho.bel _ _ (by omega) hb) | ((with_reducible refine ld_p w.heap.size _ hr ?_ ?_); exact rfl) | ((with_reducible refine st_p (w.heap.size + 1) _ ⟨setN s.pr 2 (v &&& 7), s.en, s.th, s.pe, s.bu⟩ hq ?_ ?_ ?_); exact rfl; exact rfl; intro W hnew ho; replace hr := hr.only ho (by omega); replace hq := hnew; replace hb := ho.bel _ _ (by omega) hb))
  refine bodyPost_ret (results_cell_one Tryd.results13 _ _ (w.heap.size + 1) _ _ _ rfl hq Tryd.underlying26 rfl size_p) rfl ?_
  exact ⟨rfl, hb⟩

set_option maxHeartbeats 1000000 in
theorem write_pr3 (s : P5) (v : Nat) (hv : v < 4294967296) (w : World) :
    Calls Tryd.prog 13 #[.agg s.cells, .int .u32 ((12 : Nat) : Int), .int .u32 (v : Nat)] w fun e w' => e = .returned (.tuple #[.agg (writeV s 12 v).1.cells, errP (writeV s 12 v).2]) ∧ Below w.heap.size w w' := by
  rw [show (((12 : Nat) : Int)) = 12 from rfl]
  have HI := hide (fun w => isPr_any 12 w)
  rw [show isPr 12 = true from by decide, show (((12 : Nat) : Int)) = 12 from rfl] at HI
  have E7 : Hid (Value.int .u32 (bits .and .u32 (v : Int) 7) = .int .u32 ((v &&& 7 : Nat) : Int)) := hide (congrArg _ (u32_and_nat v 7 hv (by decide)))
  go_enter Tryd.func13, Tryd.ntmps13
  go_wp2_with (first | ((with_reducible refine bx_p w.heap.size s ?_ ?_ ?_); exact rfl; exact rfl; intro W hr hb hz) | ((with_reducible refine al_p (w.heap.size + 1) ?_ ?_); exact hz.out; intro W hq hb' hz'; replace hr := hr.bl (hz.out ▸ hb'); replace hb := hb.trans (hb'.mono (by omega)); replace hz := hz') | (go_at_call 15; refine (HI.out _).mono ?_; rintro e W2 ⟨rfl, rfl⟩) | ((with_reducible refine st_pr w.heap.size 3 s (v &&& 7) _ (by decide) hr ?_ ?_ ?_); exact rfl; exact E7.out; intro W hnew ho; replace hq := hq.only ho (by omega); replace hr := hnew; replace hb := ho.bel _ _ (by omega) hb) | ((with_reducible refine ld_p w.heap.size _ hr ?_ ?_); exact rfl) | ((with_reducible refine st_p (w.heap.size + 1) _ ⟨setN s.pr 3 (v &&& 7), s.en, s.th, s.pe, s.bu⟩ hq ?_ ?_ ?_); exact rfl; exact rfl; intro W hnew ho; replace hr := hr.only ho (by omega); replace hq := hnew; replace hb := ho.bel _ _ (by omega) hb))
  refine bodyPost_ret (results_cell_one Tryd.results13 _ _ (w.heap.size + 1) _ _ _ rfl hq Tryd.underlying26 rfl size_p) rfl ?_
  exact ⟨rfl, hb⟩

set_option maxHeartbeats 1000000 in
theorem write_pr4 (s : P5) (v : Nat) (hv : v < 4294967296) (w : World) :
    Calls Tryd.prog 13 #[.agg s.cells, .int .u32 ((16 : Nat) : Int), .int .u32 (v : Nat)] w fun e w' => e = .returned (.tuple #[.agg (writeV s 16 v).1.cells, errP (writeV s 16 v).2]) ∧ Below w.heap.size w w' := by
  rw [show (((16 : Nat) : Int)) = 16 from rfl]
  have HI := hide (fun w => isPr_any 16 w)
  rw [show isPr 16 = true from by decide, show (((16 : Nat) : Int)) = 16 from rfl] at HI
  have E7 : Hid (Value.int .u32 (bits .and .u32 (v : Int) 7) = .int .u32 ((v &&& 7 : Nat) : Int)) := hide (congrArg _ (u32_and_nat v 7 hv (by decide)))
  go_enter Tryd.func13, Tryd.ntmps13
  go_wp2_with (first | ((with_reducible refine bx_p w.heap.size s ?_ ?_ ?_); exact rfl; exact rfl; intro W hr hb hz) | ((with_reducible refine al_p (w.heap.size + 1) ?_ ?_); exact hz.out; intro W hq hb' hz'; replace hr := hr.bl (hz.out ▸ hb'); replace hb := hb.trans (hb'.mono (by omega)); replace hz := hz') | (go_at_call 15; refine (HI.out _).mono ?_; rintro e W2 ⟨rfl, rfl⟩) | ((with_reducible refine st_pr w.heap.size 4 s (v &&& 7) _ (by decide) hr ?_ ?_ ?_); exact rfl; exact E7.out; intro W hnew ho; replace hq := hq.only ho (by omega); replace hr := hnew; replace hb := ho.bel _ _ (by omega) hb) | ((with_reducible refine ld_p w.heap.size _ hr ?_ ?_); exact rfl) | ((with_reducible refine st_p (w.heap.size + 1) _ ⟨setN s.pr 4 (v &&& 7), s.en, s.th, s.pe, s.bu⟩ hq ?_ ?_ ?_); exact rfl; exact rfl; intro W hnew ho; replace hr := hr.only ho (by omega); replace hq := hnew; replace hb := ho.bel _ _ (by omega) hb))
  refine bodyPost_ret (results_cell_one Tryd.results13 _ _ (w.heap.size + 1) _ _ _ rfl hq Tryd.underlying26 rfl size_p) rfl ?_
  exact ⟨rfl, hb⟩

set_option maxHeartbeats 1000000 in
theorem write_pr5 (s : P5) (v : Nat) (hv : v < 4294967296) (w : World) :
    Calls Tryd.prog 13 #[.agg s.cells, .int .u32 ((20 : Nat) : Int), .int .u32 (v : Nat)] w fun e w' => e = .returned (.tuple #[.agg (writeV s 20 v).1.cells, errP (writeV s 20 v).2]) ∧ Below w.heap.size w w' := by
  rw [show (((20 : Nat) : Int)) = 20 from rfl]
  have HI := hide (fun w => isPr_any 20 w)
  rw [show isPr 20 = true from by decide, show (((20 : Nat) : Int)) = 20 from rfl] at HI
  have E7 : Hid (Value.int .u32 (bits .and .u32 (v : Int) 7) = .int .u32 ((v &&& 7 : Nat) : Int)) := hide (congrArg _ (u32_and_nat v 7 hv (by decide)))
  go_enter Tryd.func13, Tryd.ntmps13
  go_wp2_with (first | ((with_reducible refine bx_p w.heap.size s ?_ ?_ ?_); exact rfl; exact rfl; intro W hr hb hz) | ((with_reducible refine al_p (w.heap.size + 1) ?_ ?_); exact hz.out; intro W hq hb' hz'; replace hr := hr.bl (hz.out ▸ hb'); replace hb := hb.trans (hb'.mono (by omega)); replace hz := hz') | (go_at_call 15; refine (HI.out _).mono ?_; rintro e W2 ⟨rfl, rfl⟩) | ((with_reducible refine st_pr w.heap.size 5 s (v &&& 7) _ (by decide) hr ?_ ?_ ?_); exact rfl; exact E7.out; intro W hnew ho; replace hq := hq.only ho (by omega); replace hr := hnew; replace hb := ho.bel _ _ (by omega) hb) | ((with_reducible refine ld_p w.heap.size _ hr ?_ ?_); exact rfl) | ((with_reducible refine st_p (w.heap.size + 1) _ ⟨setN s.pr 5 (v &&& 7), s.en, s.th, s.pe, s.bu⟩ hq ?_ ?_ ?_); exact rfl; exact rfl; intro W hnew ho; replace hr := hr.only ho (by omega); replace hq := hnew; replace hb := ho.bel _ _ (by omega) hb))
  refine bodyPost_ret (results_cell_one Tryd.results13 _ _ (w.heap.size + 1) _ _ _ rfl hq Tryd.underlying26 rfl size_p) rfl ?_
  exact ⟨rfl, hb⟩

set_option maxHeartbeats 1000000 in
theorem write_pr6 (s : P5) (v : Nat) (hv : v < 4294967296) (w : World) :
    Calls Tryd.prog 13 #[.agg s.cells, .int .u32 ((24 : Nat) : Int), .int .u32 (v : Nat)] w fun e w' => e = .returned (.tuple #[.agg (writeV s 24 v).1.cells, errP (writeV s 24 v).2]) ∧ Below w.heap.size w w' := by
  rw [show (((24 : Nat) : Int)) = 24 from rfl]
  have HI := hide (fun w => isPr_any 24 w)
  rw [show isPr 24 = true from by decide, show (((24 : Nat) : Int)) = 24 from rfl] at HI
  have E7 : Hid (Value.int .u32 (bits .and .u32 (v : Int) 7) = .int .u32 ((v &&& 7 : Nat) : Int)) := hide (congrArg _ (u32_and_nat v 7 hv (by decide)))
  go_enter Tryd.func13, Tryd.ntmps13
  go_wp2_with (first | ((with_reducible refine bx_p w.heap.size s ?_ ?_ ?_); exact rfl; exact rfl; intro W hr hb hz) | ((with_reducible refine al_p (w.heap.size + 1) ?_ ?_); exact hz.out; intro W hq hb' hz'; replace hr := hr.bl (hz.out ▸ hb'); replace hb := hb.trans (hb'.mono (by omega)); replace hz := hz') | (go_at_call 15; refine (HI.out _).mono ?_; rintro e W2 ⟨rfl, rfl⟩) | ((with_reducible refine st_pr w.heap.size 6 s (v &&& 7) _ (by decide) hr ?_ ?_ ?_); exact rfl; exact E7.out; intro W hnew ho; replace hq := hq.only ho (by omega); replace hr := hnew; replace hb := ho.bel _ _ (by omega) hb) | ((with_reducible refine ld_p w.heap.size _ hr ?_ ?_); exact rfl) | ((with_reducible refine st_p (w.heap.size + 1) _ ⟨setN s.pr 6 (v &&& 7), s.en, s.th, s.pe, s.bu⟩ hq ?_ ?_ ?_); exact rfl; exact rfl; intro W hnew ho; replace hr := hr.only ho (by omega); replace hq := hnew; replace hb := ho.bel _ _ (by omega) hb))
  refine bodyPost_ret (results_cell_one Tryd.results13 _ _ (w.heap.size + 1) _ _ _ rfl hq Tryd.underlying26 rfl size_p) rfl ?_
  exact ⟨rfl, hb⟩

set_option maxHeartbeats 1000000 in
theorem write_pr7 (s : P5) (v : Nat) (hv : v < 4294967296) (w : World) :
    Calls Tryd.prog 13 #[.agg s.cells, .int .u32 ((28 : Nat) : Int), .int .u32 (v : Nat)] w fun e w' => e = .returned (.tuple #[.agg (writeV s 28 v).1.cells, errP (writeV s 28 v).2]) ∧ Below w.heap.size w w' := by
  rw [show (((28 : Nat) : Int)) = 28 from rfl]
  have HI := hide (fun w => isPr_any 28 w)
  rw [show isPr 28 = true from by decide, show (((28 : Nat) : Int)) = 28 from rfl] at HI
  have E7 : Hid (Value.int .u32 (bits .and .u32 (v : Int) 7) = .int .u32 ((v &&& 7 : Nat) : Int)) := hide (congrArg _ (u32_and_nat v 7 hv (by decide)))
  go_enter Tryd.func13, Tryd.ntmps13
  go_wp2_with (first | ((with_reducible refine bx_p w.heap.size s ?_ ?_ ?_); exact rfl; exact rfl; intro W hr hb hz) | ((with_reducible refine al_p (w.heap.size + 1) ?_ ?_); exact hz.out; intro W hq hb' hz'; replace hr := hr.bl (hz.out ▸ hb'); replace hb := hb.trans (hb'.mono (by omega)); replace hz := hz') | (go_at_call 15; refine (HI.out _).mono ?_; rintro e W2 ⟨rfl, rfl⟩) | ((with_reducible refine st_pr w.heap.size 7 s (v &&& 7) _ (by decide) hr ?_ ?_ ?_); exact rfl; exact E7.out; intro W hnew ho; replace hq := hq.only ho (by omega); replace hr := hnew; replace hb := ho.bel _ _ (by omega) hb) | ((with_reducible refine ld_p w.heap.size _ hr ?_ ?_); exact rfl) | ((with_reducible refine st_p (w.heap.size + 1) _ ⟨setN s.pr 7 (v &&& 7), s.en, s.th, s.pe, s.bu⟩ hq ?_ ?_ ?_); exact rfl; exact rfl; intro W hnew ho; replace hr := hr.only ho (by omega); replace hq := hnew; replace hb := ho.bel _ _ (by omega) hb))
  refine bodyPost_ret (results_cell_one Tryd.results13 _ _ (w.heap.size + 1) _ _ _ rfl hq Tryd.underlying26 rfl size_p) rfl ?_
  exact ⟨rfl, hb⟩

set_option maxHeartbeats 1000000 in
theorem write_pe (s : P5) (v : Nat) (hv : v < 4294967296) (w : World) :
    Calls Tryd.prog 13 #[.agg s.cells, .int .u32 ((4096 : Nat) : Int), .int .u32 (v : Nat)] w fun e w' => e = .returned (.tuple #[.agg (writeV s 4096 v).1.cells, errP (writeV s 4096 v).2]) ∧ Below w.heap.size w w' := by
  rw [show (((4096 : Nat) : Int)) = 4096 from rfl]
  have HI := hide (fun w => isPr_any 4096 w)
  rw [show isPr 4096 = false from by decide, show (((4096 : Nat) : Int)) = 4096 from rfl] at HI
  go_enter Tryd.func13, Tryd.ntmps13
  go_wp2_with (first | ((with_reducible refine bx_p w.heap.size s ?_ ?_ ?_); exact rfl; exact rfl; intro W hr hb hz) | ((with_reducible refine al_p (w.heap.size + 1) ?_ ?_); exact hz.out; intro W hq hb' hz'; replace hr := hr.bl (hz.out ▸ hb'); replace hb := hb.trans (hb'.mono (by omega)); replace hz := hz') | (go_at_call 15; refine (HI.out _).mono ?_; rintro e W2 ⟨rfl, rfl⟩) | ((with_reducible refine ld_p w.heap.size _ hr ?_ ?_); exact rfl) | ((with_reducible refine st_p (w.heap.size + 1) _ s hq ?_ ?_ ?_); exact rfl; exact rfl; intro W hnew ho; replace hr := hr.only ho (by omega); replace hq := hnew; replace hb := ho.bel _ _ (by omega) hb))
  refine bodyPost_ret (results_cell_one Tryd.results13 _ _ (w.heap.size + 1) _ _ _ rfl hq Tryd.underlying26 rfl size_p) rfl ?_
  exact ⟨rfl, hb⟩

set_option maxHeartbeats 1000000 in
theorem write_en (s : P5) (v : Nat) (hv : v < 4294967296) (w : World) :
    Calls Tryd.prog 13 #[.agg s.cells, .int .u32 ((8192 : Nat) : Int), .int .u32 (v : Nat)] w fun e w' => e = .returned (.tuple #[.agg (writeV s 8192 v).1.cells, errP (writeV s 8192 v).2]) ∧ Below w.heap.size w w' := by
  rw [show (((8192 : Nat) : Int)) = 8192 from rfl]
  have HI := hide (fun w => isPr_any 8192 w)
  rw [show isPr 8192 = false from by decide, show (((8192 : Nat) : Int)) = 8192 from rfl] at HI
  have E7 : Hid (Value.int .u32 (bits .and .u32 (v : Int) 254) = .int .u32 ((v &&& 254 : Nat) : Int)) := hide (congrArg _ (u32_and_nat v 254 hv (by decide)))
  go_enter Tryd.func13, Tryd.ntmps13
  go_wp2_with (first | ((with_reducible refine bx_p w.heap.size s ?_ ?_ ?_); exact rfl; exact rfl; intro W hr hb hz) | ((with_reducible refine al_p (w.heap.size + 1) ?_ ?_); exact hz.out; intro W hq hb' hz'; replace hr := hr.bl (hz.out ▸ hb'); replace hb := hb.trans (hb'.mono (by omega)); replace hz := hz') | (go_at_call 15; refine (HI.out _).mono ?_; rintro e W2 ⟨rfl, rfl⟩) | ((with_reducible refine st_en w.heap.size _ (v &&& 254) _ hr ?_ ?_ ?_); exact rfl; exact E7.out; intro W hnew ho; replace hq := hq.only ho (by omega); replace hr := hnew; replace hb := ho.bel _ _ (by omega) hb) | ((with_reducible refine ld_p w.heap.size _ hr ?_ ?_); exact rfl) | ((with_reducible refine st_p (w.heap.size + 1) _ ⟨s.pr, v &&& 254, s.th, s.pe, s.bu⟩ hq ?_ ?_ ?_); exact rfl; exact rfl; intro W hnew ho; replace hr := hr.only ho (by omega); replace hq := hnew; replace hb := ho.bel _ _ (by omega) hb))
  refine bodyPost_ret (results_cell_one Tryd.results13 _ _ (w.heap.size + 1) _ _ _ rfl hq Tryd.underlying26 rfl size_p) rfl ?_
  exact ⟨rfl, hb⟩

set_option maxHeartbeats 1000000 in
theorem write_th (s : P5) (v : Nat) (hv : v < 4294967296) (w : World) :
    Calls Tryd.prog 13 #[.agg s.cells, .int .u32 ((2097152 : Nat) : Int), .int .u32 (v : Nat)] w fun e w' => e = .returned (.tuple #[.agg (writeV s 2097152 v).1.cells, errP (writeV s 2097152 v).2]) ∧ Below w.heap.size w w' := by
  rw [show (((2097152 : Nat) : Int)) = 2097152 from rfl]
  have HI := hide (fun w => isPr_any 2097152 w)
  rw [show isPr 2097152 = false from by decide, show (((2097152 : Nat) : Int)) = 2097152 from rfl] at HI
  have E7 : Hid (Value.int .u32 (bits .and .u32 (v : Int) 7) = .int .u32 ((v &&& 7 : Nat) : Int)) := hide (congrArg _ (u32_and_nat v 7 hv (by decide)))
  go_enter Tryd.func13, Tryd.ntmps13
  go_wp2_with (first | ((with_reducible refine bx_p w.heap.size s ?_ ?_ ?_); exact rfl; exact rfl; intro W hr hb hz) | ((with_reducible refine al_p (w.heap.size + 1) ?_ ?_); exact hz.out; intro W hq hb' hz'; replace hr := hr.bl (hz.out ▸ hb'); replace hb := hb.trans (hb'.mono (by omega)); replace hz := hz') | (go_at_call 15; refine (HI.out _).mono ?_; rintro e W2 ⟨rfl, rfl⟩) | ((with_reducible refine st_th w.heap.size _ (v &&& 7) _ hr ?_ ?_ ?_); exact rfl; exact E7.out; intro W hnew ho; replace hq := hq.only ho (by omega); replace hr := hnew; replace hb := ho.bel _ _ (by omega) hb) | ((with_reducible refine ld_p w.heap.size _ hr ?_ ?_); exact rfl) | ((with_reducible refine st_p (w.heap.size + 1) _ ⟨s.pr, s.en, v &&& 7, s.pe, s.bu⟩ hq ?_ ?_ ?_); exact rfl; exact rfl; intro W hnew ho; replace hr := hr.only ho (by omega); replace hq := hnew; replace hb := ho.bel _ _ (by omega) hb))
  refine bodyPost_ret (results_cell_one Tryd.results13 _ _ (w.heap.size + 1) _ _ _ rfl hq Tryd.underlying26 rfl size_p) rfl ?_
  exact ⟨rfl, hb⟩

set_option maxHeartbeats 1000000 in
theorem write_claim (s : P5) (hs : s.Ok) (v : Nat) (hv : v < 4294967296) (w : World) :
    Calls Tryd.prog 13 #[.agg s.cells, .int .u32 ((2097156 : Nat) : Int), .int .u32 (v : Nat)] w fun e w' => e = .returned (.tuple #[.agg (writeV s 2097156 v).1.cells, errP (writeV s 2097156 v).2]) ∧ Below w.heap.size w w' := by
  rw [show (((2097156 : Nat) : Int)) = 2097156 from rfl]
  have HI := hide (fun w => isPr_any 2097156 w)
  rw [show isPr 2097156 = false from by decide, show (((2097156 : Nat) : Int)) = 2097156 from rfl] at HI
  have HE := hide (fun w => end_any s hs v hv w)
  go_enter Tryd.func13, Tryd.ntmps13
  go_wp2_with (first | ((with_reducible refine bx_p w.heap.size s ?_ ?_ ?_); exact rfl; exact rfl; intro W hr hb hz) | ((with_reducible refine al_p (w.heap.size + 1) ?_ ?_); exact hz.out; intro W hq hb' hz'; replace hr := hr.bl (hz.out ▸ hb'); replace hb := hb.trans (hb'.mono (by omega)); replace hz := hz') | (go_at_call 15; refine (HI.out _).mono ?_; rintro e W2 ⟨rfl, rfl⟩) | ((with_reducible refine ld_p w.heap.size _ hr ?_ ?_); exact rfl) | (go_at_call 24; refine (HE.out _).mono ?_; rintro e W ⟨rfl, hbc⟩; replace hr := hr.bl hbc; replace hq := hq.bl hbc; replace hb := below_bl rfl hb hbc) | ((with_reducible refine st_p (w.heap.size + 1) _ (endV s v) hq ?_ ?_ ?_); exact rfl; exact rfl; intro W hnew ho; replace hr := hr.only ho (by omega); replace hq := hnew; replace hb := ho.bel _ _ (by omega) hb))
  refine bodyPost_ret (results_cell_one Tryd.results13 _ _ (w.heap.size + 1) _ _ _ rfl hq Tryd.underlying26 rfl size_p) rfl ?_
  exact ⟨rfl, hb⟩

set_option maxHeartbeats 1000000 in
theorem write_none (s : P5) (v : Nat) (a : Nat) (hp : isPr a = false) (n1 : a ≠ 4096) (n2 : a ≠ 8192) (n3 : a ≠ 2097152) (n4 : a ≠ 2097156) (w : World) :
    Calls Tryd.prog 13 #[.agg s.cells, .int .u32 (a : Nat), .int .u32 (v : Nat)] w fun e w' => e = .returned (.tuple #[.agg (writeV s a v).1.cells, errP (writeV s a v).2]) ∧ Below w.heap.size w w' := by
  have HI := hide (fun w => isPr_any a w)
  rw [hp] at HI
  have t1 : ((a : Int) == 4096) = false := by simp; omega
  have t2 : ((a : Int) == 8192) = false := by simp; omega
  have t3 : ((a : Int) == 2097152) = false := by simp; omega
  have t4 : ((a : Int) == 2097156) = false := by simp; omega
  have HV : Hid (writeV s a v = (zeroP, 20)) := hide (by unfold writeV; rw [hp, if_neg (by simp), if_neg n1, if_neg n2, if_neg n3, if_neg n4])
  rw [HV.out]
  clear hp n1 n2 n3 n4
  go_enter Tryd.func13, Tryd.ntmps13
  go_wp2_with (first | ((with_reducible refine bx_p w.heap.size s ?_ ?_ ?_); exact rfl; exact rfl; intro W hr hb hz) | ((with_reducible refine al_p (w.heap.size + 1) ?_ ?_); exact hz.out; intro W hq hb' hz'; replace hr := hr.bl (hz.out ▸ hb'); replace hb := hb.trans (hb'.mono (by omega)); replace hz := hz') | (go_at_call 15; refine (HI.out _).mono ?_; rintro e W2 ⟨rfl, rfl⟩) | ((with_reducible refine st_p (w.heap.size + 1) _ zeroP hq ?_ ?_ ?_); exact rfl; exact rfl; intro W hnew ho; replace hr := hr.only ho (by omega); replace hq := hnew; replace hb := ho.bel _ _ (by omega) hb))
  refine bodyPost_ret (results_cell_one Tryd.results13 _ _ (w.heap.size + 1) _ _ _ rfl hq Tryd.underlying26 rfl size_p) rfl ?_
  exact ⟨rfl, hb⟩

theorem write_any (s : P5) (hs : s.Ok) (a v : Nat) (hv : v < 4294967296) (w : World) :
    Calls Tryd.prog 13 #[.agg s.cells, .int .u32 (a : Nat), .int .u32 (v : Nat)] w fun e w' => e = .returned (.tuple #[.agg (writeV s a v).1.cells, errP (writeV s a v).2]) ∧ Below w.heap.size w w' := by
  by_cases hp : isPr a = true
  · rcases isPr_eight hp with rfl | rfl | rfl | rfl | rfl | rfl | rfl | rfl
    · exact write_pr0 s v hv w
    · exact write_pr1 s v hv w
    · exact write_pr2 s v hv w
    · exact write_pr3 s v hv w
    · exact write_pr4 s v hv w
    · exact write_pr5 s v hv w
    · exact write_pr6 s v hv w
    · exact write_pr7 s v hv w
  by_cases n1 : a = 4096
  · subst n1; exact write_pe s v hv w
  by_cases n2 : a = 8192
  · subst n2; exact write_en s v hv w
  by_cases n3 : a = 2097152
  · subst n3; exact write_th s v hv w
  by_cases n4 : a = 2097156
  · subst n4; exact write_claim s hs v hv w
  · exact write_none s v a (by simpa using hp) n1 n2 n3 n4 w
end Go.Proofs.YtadgdgjmadchjaaDoor
