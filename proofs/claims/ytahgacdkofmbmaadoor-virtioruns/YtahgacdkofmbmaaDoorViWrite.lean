/-
  What virtio's Write answers.
-/
import Derived.Test.YtahgacdkofmbmaaDoorViQue
namespace Go.Proofs.YtahgacdkofmbmaaDoor
open Go.RowKit
set_option linter.unusedVariables false

attribute [local go_sem] V.at0 V.at1 V.at2 V.at3 V.at4 V.at5 V.at6 V.at7 V.at8 V.at9 V.at10 V.at11 V.at12 V.at13 V.at14 V.at15 V.at16 V.at17 V.at18 V.at19 V.at20 Qu.at0 Qu.at1 Qu.at2 Qu.at3 Qu.at4 Qu.at5 Qu.at6
set_option maxHeartbeats 2000000 in
theorem write_e1 (s : V) (ok : s.Ok) (a v : Nat) (hv : v < 4294967296) (hm : accV s a = 1)  (w : World) (hO : OffAt w) :
    Calls Tryd.prog 21 #[.agg s.cells, .int .u32 (a : Nat), .int .u32 (v : Nat)] w fun e w' => e = .returned (.tuple #[.agg (writeV s a v).1.cells, .int .i64 (writeV s a v).2.1, errR (writeV s a v).2.2]) ∧ Below w.heap.size w w' := by
  have HV : writeV s a v = (zeroV, -1, 1) := by unfold writeV; rw [hm]; rfl
  rw [HV]; clear HV
  have HC := hide (fun w (hO : OffAt w) => acc_any s ok a w hO)
  rw [hm] at HC
  have HC : Hid (∀ w, OffAt w → Calls Tryd.prog 24 #[.agg s.cells, .int .u32 (a : Nat)] w fun e w' => e = .returned (.iface 65 (.int .i64 1)) ∧ Below w.heap.size w w') := HC
  go_enter Tryd.func21, Tryd.ntmps21
  go_wp2_with (first | ((with_reducible refine bx_vp w.heap.size s ?_ ?_ ?_); exact rfl; exact rfl; intro W hr hb hz; have fx := hr.cell) | ((with_reducible refine al_vp (w.heap.size + 1) ?_ ?_); exact hz.out; intro W hq hb' hz'; replace hr := hr.bl (hz.out ▸ hb'); replace hb := hb.trans (hb'.mono (by omega)); replace hz := hz'; replace fx := hr.cell) | (go_at_call 24; (with_reducible refine (HC.out _ (hO.bl hb)).mono ?_); rintro e W ⟨rfl, hbc⟩; replace hr := hr.bl hbc; replace hq := hq.bl hbc; replace fx := hr.cell; replace hb := below_bl rfl hb hbc) | ((with_reducible refine ld_vp w.heap.size _ hr ?_ ?_ ?_); exact rfl; exact rfl) | ((with_reducible refine st_vp (w.heap.size + 1) _ zeroV hq ?_ ?_ ?_); exact rfl; exact rfl; intro W hnew ho; replace hr := hr.only ho (by omega); replace hq := hnew; replace hb := ho.bel _ _ (by omega) hb))
  refine bodyPost_ret (results_cell_two' Tryd.results21 _ _ (w.heap.size + 1) _ _ _ rfl hq Tryd.underlying37 rfl size_vp) rfl ?_
  exact ⟨rfl, hb⟩

set_option maxHeartbeats 2000000 in
theorem write_e20 (s : V) (ok : s.Ok) (a v : Nat) (hv : v < 4294967296) (hm : accV s a = 20)  (w : World) (hO : OffAt w) :
    Calls Tryd.prog 21 #[.agg s.cells, .int .u32 (a : Nat), .int .u32 (v : Nat)] w fun e w' => e = .returned (.tuple #[.agg (writeV s a v).1.cells, .int .i64 (writeV s a v).2.1, errR (writeV s a v).2.2]) ∧ Below w.heap.size w w' := by
  have HV : writeV s a v = (zeroV, -1, 20) := by unfold writeV; rw [hm]; rfl
  rw [HV]; clear HV
  have HC := hide (fun w (hO : OffAt w) => acc_any s ok a w hO)
  rw [hm] at HC
  have HC : Hid (∀ w, OffAt w → Calls Tryd.prog 24 #[.agg s.cells, .int .u32 (a : Nat)] w fun e w' => e = .returned (.iface 65 (.int .i64 20)) ∧ Below w.heap.size w w') := HC
  go_enter Tryd.func21, Tryd.ntmps21
  go_wp2_with (first | ((with_reducible refine bx_vp w.heap.size s ?_ ?_ ?_); exact rfl; exact rfl; intro W hr hb hz; have fx := hr.cell) | ((with_reducible refine al_vp (w.heap.size + 1) ?_ ?_); exact hz.out; intro W hq hb' hz'; replace hr := hr.bl (hz.out ▸ hb'); replace hb := hb.trans (hb'.mono (by omega)); replace hz := hz'; replace fx := hr.cell) | (go_at_call 24; (with_reducible refine (HC.out _ (hO.bl hb)).mono ?_); rintro e W ⟨rfl, hbc⟩; replace hr := hr.bl hbc; replace hq := hq.bl hbc; replace fx := hr.cell; replace hb := below_bl rfl hb hbc) | ((with_reducible refine ld_vp w.heap.size _ hr ?_ ?_ ?_); exact rfl; exact rfl) | ((with_reducible refine st_vp (w.heap.size + 1) _ zeroV hq ?_ ?_ ?_); exact rfl; exact rfl; intro W hnew ho; replace hr := hr.only ho (by omega); replace hq := hnew; replace hb := ho.bel _ _ (by omega) hb))
  refine bodyPost_ret (results_cell_two' Tryd.results21 _ _ (w.heap.size + 1) _ _ _ rfl hq Tryd.underlying37 rfl size_vp) rfl ?_
  exact ⟨rfl, hb⟩

set_option maxHeartbeats 2000000 in
theorem write_20 (s : V) (ok : s.Ok) (a v : Nat) (hv : v < 4294967296) (hm : accV s a = 0) (h : a = 20) (w : World) (hO : OffAt w) :
    Calls Tryd.prog 21 #[.agg s.cells, .int .u32 (a : Nat), .int .u32 (v : Nat)] w fun e w' => e = .returned (.tuple #[.agg (writeV s a v).1.cells, .int .i64 (writeV s a v).2.1, errR (writeV s a v).2.2]) ∧ Below w.heap.size w w' := by
  have HV : writeV s a v = ((s.fsw v), -1, 0) := by unfold writeV; rw [if_pos hm]; unfold writeS; subst h; rfl
  rw [HV]; clear HV
  have HC := hide (fun w (hO : OffAt w) => acc_any s ok a w hO)
  rw [hm] at HC
  have HC : Hid (∀ w, OffAt w → Calls Tryd.prog 24 #[.agg s.cells, .int .u32 (a : Nat)] w fun e w' => e = .returned (.nilIface) ∧ Below w.heap.size w w') := HC
  subst h
  rw [show ((20 : Nat) : Int) = 20 from rfl] at HC ⊢
  go_enter Tryd.func21, Tryd.ntmps21
  go_wp2_with (first | ((with_reducible refine bx_vp w.heap.size s ?_ ?_ ?_); exact rfl; exact rfl; intro W hr hb hz; have fx := hr.cell) | ((with_reducible refine al_vp (w.heap.size + 1) ?_ ?_); exact hz.out; intro W hq hb' hz'; replace hr := hr.bl (hz.out ▸ hb'); replace hb := hb.trans (hb'.mono (by omega)); replace hz := hz'; replace fx := hr.cell) | (go_at_call 24; (with_reducible refine (HC.out _ (hO.bl hb)).mono ?_); rintro e W ⟨rfl, hbc⟩; replace hr := hr.bl hbc; replace hq := hq.bl hbc; replace fx := hr.cell; replace hb := below_bl rfl hb hbc) | ((with_reducible refine st_fs w.heap.size _ v _ hr ?_ ?_ ?_); exact rfl; exact rfl; intro W hnew ho; replace hq := hq.only ho (by omega); replace hr := hnew; replace hb := ho.bel _ _ (by omega) hb; (try clear fx)) | ((with_reducible refine ld_vp w.heap.size _ hr ?_ ?_ ?_); exact rfl; exact rfl) | ((with_reducible refine st_vp (w.heap.size + 1) _ (s.fsw v) hq ?_ ?_ ?_); exact rfl; exact rfl; intro W hnew ho; replace hr := hr.only ho (by omega); replace hq := hnew; replace hb := ho.bel _ _ (by omega) hb))
  refine bodyPost_ret (results_cell_two' Tryd.results21 _ _ (w.heap.size + 1) _ _ _ rfl hq Tryd.underlying37 rfl size_vp) rfl ?_
  exact ⟨rfl, hb⟩

set_option maxHeartbeats 2000000 in
theorem write_36 (s : V) (ok : s.Ok) (a v : Nat) (hv : v < 4294967296) (hm : accV s a = 0) (h : a = 36) (w : World) (hO : OffAt w) :
    Calls Tryd.prog 21 #[.agg s.cells, .int .u32 (a : Nat), .int .u32 (v : Nat)] w fun e w' => e = .returned (.tuple #[.agg (writeV s a v).1.cells, .int .i64 (writeV s a v).2.1, errR (writeV s a v).2.2]) ∧ Below w.heap.size w w' := by
  have HV : writeV s a v = ((s.dsw v), -1, 0) := by unfold writeV; rw [if_pos hm]; unfold writeS; subst h; rfl
  rw [HV]; clear HV
  have HC := hide (fun w (hO : OffAt w) => acc_any s ok a w hO)
  rw [hm] at HC
  have HC : Hid (∀ w, OffAt w → Calls Tryd.prog 24 #[.agg s.cells, .int .u32 (a : Nat)] w fun e w' => e = .returned (.nilIface) ∧ Below w.heap.size w w') := HC
  subst h
  rw [show ((36 : Nat) : Int) = 36 from rfl] at HC ⊢
  go_enter Tryd.func21, Tryd.ntmps21
  go_wp2_with (first | ((with_reducible refine bx_vp w.heap.size s ?_ ?_ ?_); exact rfl; exact rfl; intro W hr hb hz; have fx := hr.cell) | ((with_reducible refine al_vp (w.heap.size + 1) ?_ ?_); exact hz.out; intro W hq hb' hz'; replace hr := hr.bl (hz.out ▸ hb'); replace hb := hb.trans (hb'.mono (by omega)); replace hz := hz'; replace fx := hr.cell) | (go_at_call 24; (with_reducible refine (HC.out _ (hO.bl hb)).mono ?_); rintro e W ⟨rfl, hbc⟩; replace hr := hr.bl hbc; replace hq := hq.bl hbc; replace fx := hr.cell; replace hb := below_bl rfl hb hbc) | ((with_reducible refine st_ds w.heap.size _ v _ hr ?_ ?_ ?_); exact rfl; exact rfl; intro W hnew ho; replace hq := hq.only ho (by omega); replace hr := hnew; replace hb := ho.bel _ _ (by omega) hb; (try clear fx)) | ((with_reducible refine ld_vp w.heap.size _ hr ?_ ?_ ?_); exact rfl; exact rfl) | ((with_reducible refine st_vp (w.heap.size + 1) _ (s.dsw v) hq ?_ ?_ ?_); exact rfl; exact rfl; intro W hnew ho; replace hr := hr.only ho (by omega); replace hq := hnew; replace hb := ho.bel _ _ (by omega) hb))
  refine bodyPost_ret (results_cell_two' Tryd.results21 _ _ (w.heap.size + 1) _ _ _ rfl hq Tryd.underlying37 rfl size_vp) rfl ?_
  exact ⟨rfl, hb⟩

set_option maxHeartbeats 2000000 in
theorem write_48 (s : V) (ok : s.Ok) (a v : Nat) (hv : v < 4294967296) (hm : accV s a = 0) (h : a = 48) (w : World) (hO : OffAt w) :
    Calls Tryd.prog 21 #[.agg s.cells, .int .u32 (a : Nat), .int .u32 (v : Nat)] w fun e w' => e = .returned (.tuple #[.agg (writeV s a v).1.cells, .int .i64 (writeV s a v).2.1, errR (writeV s a v).2.2]) ∧ Below w.heap.size w w' := by
  have HV : writeV s a v = ((s.sew v), -1, 0) := by unfold writeV; rw [if_pos hm]; unfold writeS; subst h; rfl
  rw [HV]; clear HV
  have HC := hide (fun w (hO : OffAt w) => acc_any s ok a w hO)
  rw [hm] at HC
  have HC : Hid (∀ w, OffAt w → Calls Tryd.prog 24 #[.agg s.cells, .int .u32 (a : Nat)] w fun e w' => e = .returned (.nilIface) ∧ Below w.heap.size w w') := HC
  subst h
  rw [show ((48 : Nat) : Int) = 48 from rfl] at HC ⊢
  go_enter Tryd.func21, Tryd.ntmps21
  go_wp2_with (first | ((with_reducible refine bx_vp w.heap.size s ?_ ?_ ?_); exact rfl; exact rfl; intro W hr hb hz; have fx := hr.cell) | ((with_reducible refine al_vp (w.heap.size + 1) ?_ ?_); exact hz.out; intro W hq hb' hz'; replace hr := hr.bl (hz.out ▸ hb'); replace hb := hb.trans (hb'.mono (by omega)); replace hz := hz'; replace fx := hr.cell) | (go_at_call 24; (with_reducible refine (HC.out _ (hO.bl hb)).mono ?_); rintro e W ⟨rfl, hbc⟩; replace hr := hr.bl hbc; replace hq := hq.bl hbc; replace fx := hr.cell; replace hb := below_bl rfl hb hbc) | ((with_reducible refine st_se w.heap.size _ v _ hr ?_ ?_ ?_); exact rfl; exact rfl; intro W hnew ho; replace hq := hq.only ho (by omega); replace hr := hnew; replace hb := ho.bel _ _ (by omega) hb; (try clear fx)) | ((with_reducible refine ld_vp w.heap.size _ hr ?_ ?_ ?_); exact rfl; exact rfl) | ((with_reducible refine st_vp (w.heap.size + 1) _ (s.sew v) hq ?_ ?_ ?_); exact rfl; exact rfl; intro W hnew ho; replace hr := hr.only ho (by omega); replace hq := hnew; replace hb := ho.bel _ _ (by omega) hb))
  refine bodyPost_ret (results_cell_two' Tryd.results21 _ _ (w.heap.size + 1) _ _ _ rfl hq Tryd.underlying37 rfl size_vp) rfl ?_
  exact ⟨rfl, hb⟩

set_option maxHeartbeats 2000000 in
theorem write_32 (s : V) (ok : s.Ok) (a v : Nat) (hv : v < 4294967296) (hm : accV s a = 0) (h : a = 32) (w : World) (hO : OffAt w) :
    Calls Tryd.prog 21 #[.agg s.cells, .int .u32 (a : Nat), .int .u32 (v : Nat)] w fun e w' => e = .returned (.tuple #[.agg (writeV s a v).1.cells, .int .i64 (writeV s a v).2.1, errR (writeV s a v).2.2]) ∧ Below w.heap.size w w' := by
  have HV : writeV s a v = (askV s v, -1, 0) := by unfold writeV; rw [if_pos hm]; unfold writeS; subst h; rfl
  rw [HV]; clear HV
  have HC := hide (fun w (hO : OffAt w) => acc_any s ok a w hO)
  rw [hm] at HC
  have HC : Hid (∀ w, OffAt w → Calls Tryd.prog 24 #[.agg s.cells, .int .u32 (a : Nat)] w fun e w' => e = .returned (.nilIface) ∧ Below w.heap.size w w') := HC
  have HA := hide (fun w => ask_any s ok v hv w)
  generalize askV s v = z at HA ⊢
  subst h
  rw [show ((32 : Nat) : Int) = 32 from rfl] at HC ⊢
  go_enter Tryd.func21, Tryd.ntmps21
  go_wp2_with (first | ((with_reducible refine bx_vp w.heap.size s ?_ ?_ ?_); exact rfl; exact rfl; intro W hr hb hz; have fx := hr.cell) | ((with_reducible refine al_vp (w.heap.size + 1) ?_ ?_); exact hz.out; intro W hq hb' hz'; replace hr := hr.bl (hz.out ▸ hb'); replace hb := hb.trans (hb'.mono (by omega)); replace hz := hz'; replace fx := hr.cell) | (go_at_call 24; (with_reducible refine (HC.out _ (hO.bl hb)).mono ?_); rintro e W ⟨rfl, hbc⟩; replace hr := hr.bl hbc; replace hq := hq.bl hbc; replace fx := hr.cell; replace hb := below_bl rfl hb hbc) | (go_at_call 33; (with_reducible refine (HA.out _).mono ?_); rintro e W ⟨rfl, hbc⟩; replace hr := hr.bl hbc; replace hq := hq.bl hbc; replace fx := hr.cell; replace hb := below_bl rfl hb hbc) | ((with_reducible refine st_vp w.heap.size _ z hr ?_ ?_ ?_); exact rfl; exact rfl; intro W hnew ho; replace hq := hq.only ho (by omega); replace hr := hnew; replace hb := ho.bel _ _ (by omega) hb) | ((with_reducible refine ld_vp w.heap.size _ hr ?_ ?_ ?_); exact rfl; exact rfl) | ((with_reducible refine st_vp (w.heap.size + 1) _ z hq ?_ ?_ ?_); exact rfl; exact rfl; intro W hnew ho; replace hr := hr.only ho (by omega); replace hq := hnew; replace hb := ho.bel _ _ (by omega) hb))
  refine bodyPost_ret (results_cell_two' Tryd.results21 _ _ (w.heap.size + 1) _ _ _ rfl hq Tryd.underlying37 rfl size_vp) rfl ?_
  exact ⟨rfl, hb⟩

set_option maxHeartbeats 2000000 in
theorem write_112 (s : V) (ok : s.Ok) (a v : Nat) (hv : v < 4294967296) (hm : accV s a = 0) (h : a = 112) (w : World) (hO : OffAt w) :
    Calls Tryd.prog 21 #[.agg s.cells, .int .u32 (a : Nat), .int .u32 (v : Nat)] w fun e w' => e = .returned (.tuple #[.agg (writeV s a v).1.cells, .int .i64 (writeV s a v).2.1, errR (writeV s a v).2.2]) ∧ Below w.heap.size w w' := by
  have HV : writeV s a v = (statV s v, -1, 0) := by unfold writeV; rw [if_pos hm]; unfold writeS; subst h; rfl
  rw [HV]; clear HV
  have HC := hide (fun w (hO : OffAt w) => acc_any s ok a w hO)
  rw [hm] at HC
  have HC : Hid (∀ w, OffAt w → Calls Tryd.prog 24 #[.agg s.cells, .int .u32 (a : Nat)] w fun e w' => e = .returned (.nilIface) ∧ Below w.heap.size w w') := HC
  have HA := hide (fun w (hO : OffAt w) => stat_any s ok v hv w hO)
  generalize statV s v = z at HA ⊢
  subst h
  rw [show ((112 : Nat) : Int) = 112 from rfl] at HC ⊢
  go_enter Tryd.func21, Tryd.ntmps21
  go_wp2_with (first | ((with_reducible refine bx_vp w.heap.size s ?_ ?_ ?_); exact rfl; exact rfl; intro W hr hb hz; have fx := hr.cell) | ((with_reducible refine al_vp (w.heap.size + 1) ?_ ?_); exact hz.out; intro W hq hb' hz'; replace hr := hr.bl (hz.out ▸ hb'); replace hb := hb.trans (hb'.mono (by omega)); replace hz := hz'; replace fx := hr.cell) | (go_at_call 24; (with_reducible refine (HC.out _ (hO.bl hb)).mono ?_); rintro e W ⟨rfl, hbc⟩; replace hr := hr.bl hbc; replace hq := hq.bl hbc; replace fx := hr.cell; replace hb := below_bl rfl hb hbc) | (go_at_call 35; (with_reducible refine (HA.out _ (hO.bl hb)).mono ?_); rintro e W ⟨rfl, hbc⟩; replace hr := hr.bl hbc; replace hq := hq.bl hbc; replace fx := hr.cell; replace hb := below_bl rfl hb hbc) | ((with_reducible refine st_vp w.heap.size _ z hr ?_ ?_ ?_); exact rfl; exact rfl; intro W hnew ho; replace hq := hq.only ho (by omega); replace hr := hnew; replace hb := ho.bel _ _ (by omega) hb) | ((with_reducible refine ld_vp w.heap.size _ hr ?_ ?_ ?_); exact rfl; exact rfl) | ((with_reducible refine st_vp (w.heap.size + 1) _ z hq ?_ ?_ ?_); exact rfl; exact rfl; intro W hnew ho; replace hr := hr.only ho (by omega); replace hq := hnew; replace hb := ho.bel _ _ (by omega) hb))
  refine bodyPost_ret (results_cell_two' Tryd.results21 _ _ (w.heap.size + 1) _ _ _ rfl hq Tryd.underlying37 rfl size_vp) rfl ?_
  exact ⟨rfl, hb⟩

set_option maxHeartbeats 2000000 in
theorem write_100 (s : V) (ok : s.Ok) (a v : Nat) (hv : v < 4294967296) (hm : accV s a = 0) (h : a = 100) (w : World) (hO : OffAt w) :
    Calls Tryd.prog 21 #[.agg s.cells, .int .u32 (a : Nat), .int .u32 (v : Nat)] w fun e w' => e = .returned (.tuple #[.agg (writeV s a v).1.cells, .int .i64 (writeV s a v).2.1, errR (writeV s a v).2.2]) ∧ Below w.heap.size w w' := by
  have HV : writeV s a v = ((s.irw (s.ir &&& (4294967295 - v))), -1, 0) := by unfold writeV; rw [if_pos hm]; unfold writeS; subst h; rfl
  rw [HV]; clear HV
  have HC := hide (fun w (hO : OffAt w) => acc_any s ok a w hO)
  rw [hm] at HC
  have HC : Hid (∀ w, OffAt w → Calls Tryd.prog 24 #[.agg s.cells, .int .u32 (a : Nat)] w fun e w' => e = .returned (.nilIface) ∧ Below w.heap.size w w') := HC
  have HB := hide (u32_andNot_nat s.ir v ok.ir hv)
  subst h
  rw [show ((100 : Nat) : Int) = 100 from rfl] at HC ⊢
  go_enter Tryd.func21, Tryd.ntmps21
  go_wp2_with (first | ((with_reducible refine bx_vp w.heap.size s ?_ ?_ ?_); exact rfl; exact rfl; intro W hr hb hz; have fx := hr.cell) | ((with_reducible refine al_vp (w.heap.size + 1) ?_ ?_); exact hz.out; intro W hq hb' hz'; replace hr := hr.bl (hz.out ▸ hb'); replace hb := hb.trans (hb'.mono (by omega)); replace hz := hz'; replace fx := hr.cell) | (go_at_call 24; (with_reducible refine (HC.out _ (hO.bl hb)).mono ?_); rintro e W ⟨rfl, hbc⟩; replace hr := hr.bl hbc; replace hq := hq.bl hbc; replace fx := hr.cell; replace hb := below_bl rfl hb hbc) | ((with_reducible refine st_ir w.heap.size _ (s.ir &&& (4294967295 - v)) _ hr ?_ ?_ ?_); exact rfl; exact congrArg (Value.int .u32) HB.out; intro W hnew ho; replace hq := hq.only ho (by omega); replace hr := hnew; replace hb := ho.bel _ _ (by omega) hb; (try clear fx)) | ((with_reducible refine ld_vp w.heap.size _ hr ?_ ?_ ?_); exact rfl; exact rfl) | ((with_reducible refine st_vp (w.heap.size + 1) _ (s.irw (s.ir &&& (4294967295 - v))) hq ?_ ?_ ?_); exact rfl; exact rfl; intro W hnew ho; replace hr := hr.only ho (by omega); replace hq := hnew; replace hb := ho.bel _ _ (by omega) hb))
  refine bodyPost_ret (results_cell_two' Tryd.results21 _ _ (w.heap.size + 1) _ _ _ rfl hq Tryd.underlying37 rfl size_vp) rfl ?_
  exact ⟨rfl, hb⟩

set_option maxHeartbeats 2000000 in
theorem write_far (s : V) (ok : s.Ok) (a v : Nat) (hv : v < 4294967296) (hm : accV s a = 0) (n20 : a ≠ 20) (n36 : a ≠ 36) (n32 : a ≠ 32) (n48 : a ≠ 48) (n80 : a ≠ 80) (n100 : a ≠ 100) (n112 : a ≠ 112) (hs : 2 ≤ s.se) (w : World) (hO : OffAt w) :
    Calls Tryd.prog 21 #[.agg s.cells, .int .u32 (a : Nat), .int .u32 (v : Nat)] w fun e w' => e = .returned (.tuple #[.agg (writeV s a v).1.cells, .int .i64 (writeV s a v).2.1, errR (writeV s a v).2.2]) ∧ Below w.heap.size w w' := by
  have HV : writeV s a v = (s, -1, 0) := by unfold writeV; rw [if_pos hm]; unfold writeS; rw [if_neg n20, if_neg n36, if_neg n32, if_neg n48, if_neg n80, if_neg n100, if_neg n112, if_neg (show ¬ s.se < 2 by omega)]
  rw [HV]; clear HV
  have HC := hide (fun w (hO : OffAt w) => acc_any s ok a w hO)
  rw [hm] at HC
  have HC : Hid (∀ w, OffAt w → Calls Tryd.prog 24 #[.agg s.cells, .int .u32 (a : Nat)] w fun e w' => e = .returned (.nilIface) ∧ Below w.heap.size w w') := HC
  have l20 : ((a : Int) == 20) = false := by simp; omega
  have m20 : (a == 20) = false := by simp; omega
  have l36 : ((a : Int) == 36) = false := by simp; omega
  have m36 : (a == 36) = false := by simp; omega
  have l32 : ((a : Int) == 32) = false := by simp; omega
  have m32 : (a == 32) = false := by simp; omega
  have l48 : ((a : Int) == 48) = false := by simp; omega
  have m48 : (a == 48) = false := by simp; omega
  have l80 : ((a : Int) == 80) = false := by simp; omega
  have m80 : (a == 80) = false := by simp; omega
  have l100 : ((a : Int) == 100) = false := by simp; omega
  have m100 : (a == 100) = false := by simp; omega
  have l112 : ((a : Int) == 112) = false := by simp; omega
  have m112 : (a == 112) = false := by simp; omega
  have lt : decide ((s.se : Int) < 2) = false := by simp; omega
  have ltb : decide (s.se < 2) = false := by simp; omega
  clear n20 n36 n32 n48 n80 n100 n112
  go_enter Tryd.func21, Tryd.ntmps21
  go_wp2_with (first | ((with_reducible refine bx_vp w.heap.size s ?_ ?_ ?_); exact rfl; exact rfl; intro W hr hb hz; have fx := hr.cell) | ((with_reducible refine al_vp (w.heap.size + 1) ?_ ?_); exact hz.out; intro W hq hb' hz'; replace hr := hr.bl (hz.out ▸ hb'); replace hb := hb.trans (hb'.mono (by omega)); replace hz := hz'; replace fx := hr.cell) | (go_at_call 24; (with_reducible refine (HC.out _ (hO.bl hb)).mono ?_); rintro e W ⟨rfl, hbc⟩; replace hr := hr.bl hbc; replace hq := hq.bl hbc; replace fx := hr.cell; replace hb := below_bl rfl hb hbc) | ((with_reducible refine ld_vp w.heap.size _ hr ?_ ?_ ?_); exact rfl; exact rfl) | ((with_reducible refine st_vp (w.heap.size + 1) _ s hq ?_ ?_ ?_); exact rfl; exact rfl; intro W hnew ho; replace hr := hr.only ho (by omega); replace hq := hnew; replace hb := ho.bel _ _ (by omega) hb))
  refine bodyPost_ret (results_cell_two' Tryd.results21 _ _ (w.heap.size + 1) _ _ _ rfl hq Tryd.underlying37 rfl size_vp) rfl ?_
  exact ⟨rfl, hb⟩

set_option maxHeartbeats 2000000 in
theorem write_q (s : V) (ok : s.Ok) (a v : Nat) (hv : v < 4294967296) (hm : accV s a = 0) (n20 : a ≠ 20) (n36 : a ≠ 36) (n32 : a ≠ 32) (n48 : a ≠ 48) (n80 : a ≠ 80) (n100 : a ≠ 100) (n112 : a ≠ 112) (hs : s.se < 2) (w : World) (hO : OffAt w) :
    Calls Tryd.prog 21 #[.agg s.cells, .int .u32 (a : Nat), .int .u32 (v : Nat)] w fun e w' => e = .returned (.tuple #[.agg (writeV s a v).1.cells, .int .i64 (writeV s a v).2.1, errR (writeV s a v).2.2]) ∧ Below w.heap.size w w' := by
  have HV : writeV s a v = (wqV s a v, -1, 0) := by unfold writeV; rw [if_pos hm]; unfold writeS; rw [if_neg n20, if_neg n36, if_neg n32, if_neg n48, if_neg n80, if_neg n100, if_neg n112, if_pos hs]
  rw [HV]; clear HV
  have HC := hide (fun w (hO : OffAt w) => acc_any s ok a w hO)
  rw [hm] at HC
  have HC : Hid (∀ w, OffAt w → Calls Tryd.prog 24 #[.agg s.cells, .int .u32 (a : Nat)] w fun e w' => e = .returned (.nilIface) ∧ Below w.heap.size w w') := HC
  have HA := hide (fun w => wq_any s ok a v hv hs w)
  generalize wqV s a v = z at HA ⊢
  have l20 : ((a : Int) == 20) = false := by simp; omega
  have m20 : (a == 20) = false := by simp; omega
  have l36 : ((a : Int) == 36) = false := by simp; omega
  have m36 : (a == 36) = false := by simp; omega
  have l32 : ((a : Int) == 32) = false := by simp; omega
  have m32 : (a == 32) = false := by simp; omega
  have l48 : ((a : Int) == 48) = false := by simp; omega
  have m48 : (a == 48) = false := by simp; omega
  have l80 : ((a : Int) == 80) = false := by simp; omega
  have m80 : (a == 80) = false := by simp; omega
  have l100 : ((a : Int) == 100) = false := by simp; omega
  have m100 : (a == 100) = false := by simp; omega
  have l112 : ((a : Int) == 112) = false := by simp; omega
  have m112 : (a == 112) = false := by simp; omega
  have lt : (s.se : Int) < 2 := by omega
  clear n20 n36 n32 n48 n80 n100 n112
  go_enter Tryd.func21, Tryd.ntmps21
  go_wp2_with (first | ((with_reducible refine bx_vp w.heap.size s ?_ ?_ ?_); exact rfl; exact rfl; intro W hr hb hz; have fx := hr.cell) | ((with_reducible refine al_vp (w.heap.size + 1) ?_ ?_); exact hz.out; intro W hq hb' hz'; replace hr := hr.bl (hz.out ▸ hb'); replace hb := hb.trans (hb'.mono (by omega)); replace hz := hz'; replace fx := hr.cell) | (go_at_call 24; (with_reducible refine (HC.out _ (hO.bl hb)).mono ?_); rintro e W ⟨rfl, hbc⟩; replace hr := hr.bl hbc; replace hq := hq.bl hbc; replace fx := hr.cell; replace hb := below_bl rfl hb hbc) | (go_at_call 36; (with_reducible refine (HA.out _).mono ?_); rintro e W ⟨rfl, hbc⟩; replace hr := hr.bl hbc; replace hq := hq.bl hbc; replace fx := hr.cell; replace hb := below_bl rfl hb hbc) | ((with_reducible refine st_vp w.heap.size _ z hr ?_ ?_ ?_); exact rfl; exact rfl; intro W hnew ho; replace hq := hq.only ho (by omega); replace hr := hnew; replace hb := ho.bel _ _ (by omega) hb) | ((with_reducible refine ld_vp w.heap.size _ hr ?_ ?_ ?_); exact rfl; exact rfl) | ((with_reducible refine st_vp (w.heap.size + 1) _ z hq ?_ ?_ ?_); exact rfl; exact rfl; intro W hnew ho; replace hr := hr.only ho (by omega); replace hq := hnew; replace hb := ho.bel _ _ (by omega) hb))
  refine bodyPost_ret (results_cell_two' Tryd.results21 _ _ (w.heap.size + 1) _ _ _ rfl hq Tryd.underlying37 rfl size_vp) rfl ?_
  exact ⟨rfl, hb⟩

set_option maxHeartbeats 2000000 in
theorem write_80 (s : V) (ok : s.Ok) (a v : Nat) (hv : v < 4294967296) (hm : accV s a = 0) (h : a = 80) (w : World) (hO : OffAt w) :
    Calls Tryd.prog 21 #[.agg s.cells, .int .u32 (a : Nat), .int .u32 (v : Nat)] w fun e w' => e = .returned (.tuple #[.agg (writeV s a v).1.cells, .int .i64 (writeV s a v).2.1, errR (writeV s a v).2.2]) ∧ Below w.heap.size w w' := by
  have HV : writeV s a v = (s, notV s v, 0) := by unfold writeV; rw [if_pos hm]; unfold writeS; subst h; rfl
  rw [HV]; clear HV
  have HC := hide (fun w (hO : OffAt w) => acc_any s ok a w hO)
  rw [hm] at HC
  have HC : Hid (∀ w, OffAt w → Calls Tryd.prog 24 #[.agg s.cells, .int .u32 (a : Nat)] w fun e w' => e = .returned (.nilIface) ∧ Below w.heap.size w w') := HC
  have HA := hide (fun w => not_any s ok v w)
  generalize notV s v = z at HA ⊢
  subst h
  rw [show ((80 : Nat) : Int) = 80 from rfl] at HC ⊢
  go_enter Tryd.func21, Tryd.ntmps21
  go_wp2_with (first | ((with_reducible refine bx_vp w.heap.size s ?_ ?_ ?_); exact rfl; exact rfl; intro W hr hb hz; have fx := hr.cell) | ((with_reducible refine al_vp (w.heap.size + 1) ?_ ?_); exact hz.out; intro W hq hb' hz'; replace hr := hr.bl (hz.out ▸ hb'); replace hb := hb.trans (hb'.mono (by omega)); replace hz := hz'; replace fx := hr.cell) | ((with_reducible refine ld_vp w.heap.size _ hr ?_ ?_ ?_); exact rfl; exact rfl) | (go_at_call 24; (with_reducible refine (HC.out _ (hO.bl hb)).mono ?_); rintro e W ⟨rfl, hbc⟩; replace hr := hr.bl hbc; replace hq := hq.bl hbc; replace fx := hr.cell; replace hb := below_bl rfl hb hbc))
  refine wp_region_held_drew (S := (fun V => RowAt V w.heap.size s.cells 37 ∧ Below w.heap.size w V)) (by kernel_rfl) ?_ (fun hHeld => ?_)
  · exact ⟨hr.dr, hb.drew⟩
  replace hq := hq.dr
  generalize W.drew = V at hHeld hq ⊢
  clear hr hb hz fx
  refine wpAnyH_take (i := 0) (oi := ?oi1) (v := .agg s.cells) ?hi1 (by kernel_rfl) (by kernel_rfl) (by kernel_rfl) ?hQ1 ?hy1 (by assumption) ?rest1
  case hi1 => (simp only [List.getElem?_toArray, List.getElem?_cons_zero]; rfl)
  case hQ1 => exact fun _ _ _ h => h
  case hy1 => exact y_vp w.heap.size s (fun V hV => hV.1) rfl rfl
  simp only [Act.put, List.setIfInBounds_toArray, List.set_cons_zero, List.set_cons_succ]
  refine wpAnyH_take (i := 1) (oi := ?oi2) (v := .agg s.cells) ?hi2 (by kernel_rfl) (by kernel_rfl) (by kernel_rfl) ?hQ2 ?hy2 (by assumption) ?rest2
  case hi2 => (simp only [List.getElem?_toArray, List.getElem?_cons_zero, List.getElem?_cons_succ]; rfl)
  case hQ2 => exact fun _ _ _ h => h
  case hy2 => exact y_vp w.heap.size s (fun V hV => hV.1) rfl rfl
  simp only [Act.put, List.setIfInBounds_toArray, List.set_cons_zero, List.set_cons_succ]
  refine wpAnyH_take (i := 2) (oi := ?oi3) (v := .int .u32 (v : Nat)) ?hi3 (by kernel_rfl) (by kernel_rfl) (by kernel_rfl) ?hQ3 ?hy3 (by assumption) ?rest3
  case hi3 => (simp only [List.getElem?_toArray, List.getElem?_cons_zero, List.getElem?_cons_succ]; rfl)
  case hQ3 => exact fun _ _ _ h => h
  case hy3 => exact Or.inl ⟨by rfl, by (intro w hSw; (try dsimp only at hSw); go_simp )⟩
  simp only [Act.put, List.setIfInBounds_toArray, List.set_cons_zero, List.set_cons_succ]
  refine wpAnyH_ready (rs := [3]) (by kernel_rfl) (by simp) ?_
  refine AllReadyH.cons (o := ?oi4) ?hi4 (fun K hK => ?_) AllReadyH.nil
  case hi4 => (simp only [List.getElem?_toArray, List.getElem?_cons_zero, List.getElem?_cons_succ]; rfl)
  go_simp
  (with_reducible refine (HA.out _).mono ?_)
  rintro e V ⟨rfl, hbc⟩
  have hH2 := hide (And.intro (hHeld.1.bl hbc) (below_bl rfl hHeld.2 hbc))
  replace hq := hq.bl hbc
  clear hHeld hbc
  go_simp
  refine hK.out _ _ ?_ (fun hHeld => ?_)
  · exact hH2.out
  clear hK K
  clear hH2
  refine wpAnyH_ready (rs := [4]) (by kernel_rfl) (by simp) ?_
  refine AllReadyH.cons (o := ?oi5) ?hi5 (fun K hK => ?_) AllReadyH.nil
  case hi5 => (simp only [List.getElem?_toArray, List.getElem?_cons_zero, List.getElem?_cons_succ]; rfl)
  rw [if_pos (by rfl)]
  (with_reducible refine s_vp (w.heap.size + 1) _ s hq ?_ ?_ ?_)
  · exact rfl
  · exact rfl
  intro V hnew ho
  have hH2 := hide (And.intro (hHeld.1.only ho (by omega)) (ho.bel _ _ (by omega) hHeld.2))
  replace hq := hnew
  clear hHeld
  refine hK.out _ _ ?_ (fun hHeld => ?_)
  · exact hH2.out
  clear hK K
  clear hH2
  refine wpAnyH_take (i := 5) (oi := ?oi6) (v := .int .i64 z) ?hi6 (by kernel_rfl) (by kernel_rfl) (by kernel_rfl) ?hQ6 ?hy6 (by assumption) ?rest6
  case hi6 => (simp only [List.getElem?_toArray, List.getElem?_cons_zero, List.getElem?_cons_succ]; rfl)
  case hQ6 => exact fun _ _ _ h => h
  case hy6 => exact Or.inl ⟨by rfl, by (intro w hSw; (try dsimp only at hSw); go_simp )⟩
  simp only [Act.put, List.setIfInBounds_toArray, List.set_cons_zero, List.set_cons_succ]
  refine wpAnyH_take (i := 6) (oi := ?oi7) (v := .nilIface) ?hi7 (by kernel_rfl) (by kernel_rfl) (by kernel_rfl) ?hQ7 ?hy7 (by assumption) ?rest7
  case hi7 => (simp only [List.getElem?_toArray, List.getElem?_cons_zero, List.getElem?_cons_succ]; rfl)
  case hQ7 => exact fun _ _ _ h => h
  case hy7 => exact Or.inl ⟨by rfl, by (intro w hSw; (try dsimp only at hSw); go_simp )⟩
  simp only [Act.put, List.setIfInBounds_toArray, List.set_cons_zero, List.set_cons_succ]
  refine wpAnyH_done (by kernel_rfl) ?_ _
  have hb := hHeld.2
  clear hHeld
  go_wp2
  refine bodyPost_ret (results_cell_two' Tryd.results21 _ _ (w.heap.size + 1) _ _ _ rfl hq Tryd.underlying37 rfl size_vp) rfl ?_
  exact ⟨rfl, hb⟩

theorem write_any (s : V) (ok : s.Ok) (a v : Nat) (hv : v < 4294967296) (w : World) (hO : OffAt w) : Calls Tryd.prog 21 #[.agg s.cells, .int .u32 (a : Nat), .int .u32 (v : Nat)] w fun e w' => e = .returned (.tuple #[.agg (writeV s a v).1.cells, .int .i64 (writeV s a v).2.1, errR (writeV s a v).2.2]) ∧ Below w.heap.size w w' := by
  rcases accV_cases s a with hm | hm | hm
  · by_cases n20 : a = 20
    · exact write_20 s ok a v hv hm n20 w hO
    by_cases n36 : a = 36
    · exact write_36 s ok a v hv hm n36 w hO
    by_cases n32 : a = 32
    · exact write_32 s ok a v hv hm n32 w hO
    by_cases n48 : a = 48
    · exact write_48 s ok a v hv hm n48 w hO
    by_cases n80 : a = 80
    · exact write_80 s ok a v hv hm n80 w hO
    by_cases n100 : a = 100
    · exact write_100 s ok a v hv hm n100 w hO
    by_cases n112 : a = 112
    · exact write_112 s ok a v hv hm n112 w hO
    by_cases h2 : s.se < 2
    · exact write_q s ok a v hv hm n20 n36 n32 n48 n80 n100 n112 h2 w hO
    · exact write_far s ok a v hv hm n20 n36 n32 n48 n80 n100 n112 (by omega) w hO
  · exact write_e1 s ok a v hv hm w hO
  · exact write_e20 s ok a v hv hm w hO
end Go.Proofs.YtahgacdkofmbmaaDoor
