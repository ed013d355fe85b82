/-
  The document's Write: what is quieted, and the status.
-/
import Derived.Test.YtbggkoahofnnjaaGreatDoorJR31
import Derived.Test.YtbggkoahofnnjaaGreatDoorJR11
open Go.Proofs.Tryz
set_option linter.unusedVariables false
set_option linter.unusedSimpArgs false
namespace Go.Proofs.YtbggkoahofnnjaaGreatDoor
open Go.RowKit
set_option maxHeartbeats 2000000
attribute [local go_sem] V.at0 V.at1 V.at2 V.at3 V.at4 V.at5 V.at6 V.at7 V.at8 V.at9 V.at10 V.at11 V.at12 V.at13 V.at14 V.at15 V.at16 V.at17 V.at18 V.at19 V.at20 Qu.at0 Qu.at1 Qu.at2 Qu.at3 Qu.at4 Qu.at5 Qu.at6
def StViWrite0 (s : V) (a : Nat) (v : Nat) (w : World) : Prop := Calls prog 26 #[.agg s.cells, .int .u32 (a : Nat), .int .u32 (v : Nat)] w fun e w' => e = .returned (.tuple #[.agg (writeV s a v).1.cells, .int .i64 (writeV s a v).2.1, errR (writeV s a v).2.2]) ∧ Below w.heap.size w w'
theorem write_e1 (s : V) (ok : s.Ok) (a v : Nat) (hv : v < 4294967296) (hm : accV s a = 1)  (w : World) (hO : OffAt w) :
    StViWrite0 s a v w := by
  unfold StViWrite0
  have HV : writeV s a v = (zeroV, -1, 1) := by unfold writeV; rw [hm]; rfl
  rw [HV]; clear HV
  have HC := hide (fun w (hO : OffAt w) => acc_any s ok a w hO)
  rw [hm] at HC
  have HC : Hid (∀ w, OffAt w → Calls prog 57 #[.agg s.cells, .int .u32 (a : Nat)] w fun e w' => e = .returned (.iface 82 (.int .i64 1)) ∧ Below w.heap.size w w') := HC
  go_enter func26, ntmps26
  go_wp2_with (first | ((with_reducible refine bx_vp w.heap.size s ?_ ?_ ?_); exact rfl; exact rfl; intro W hr hb hz; have fx := hr.cell) | ((with_reducible refine al_vp (w.heap.size + 1) ?_ ?_); exact hz.out; intro W hq hb' hz'; replace hr := hr.bl (hz.out ▸ hb'); replace hb := hb.trans (hb'.mono (by omega)); replace hz := hz'; replace fx := hr.cell) | (go_at_call 57; (with_reducible refine (HC.out _ (hO.bl hb)).mono ?_); rintro e W ⟨rfl, hbc⟩; replace hr := hr.bl hbc; replace hq := hq.bl hbc; replace fx := hr.cell; replace hb := below_bl rfl hb hbc) | ((with_reducible refine ld_vp w.heap.size _ hr ?_ ?_ ?_); exact rfl; exact rfl) | ((with_reducible refine st_vp (w.heap.size + 1) _ zeroV hq ?_ ?_ ?_); exact rfl; exact rfl; intro W hnew ho; replace hr := hr.only ho (by omega); replace hq := hnew; replace hb := ho.bel _ _ (by omega) hb))
  refine bodyPost_ret (results_cell_two' results26 _ _ (w.heap.size + 1) _ _ _ rfl hq underlying39 rfl size_vp) rfl ?_
  exact ⟨rfl, hb⟩
theorem write_e20 (s : V) (ok : s.Ok) (a v : Nat) (hv : v < 4294967296) (hm : accV s a = 20)  (w : World) (hO : OffAt w) :
    StViWrite0 s a v w := by
  unfold StViWrite0
  have HV : writeV s a v = (zeroV, -1, 20) := by unfold writeV; rw [hm]; rfl
  rw [HV]; clear HV
  have HC := hide (fun w (hO : OffAt w) => acc_any s ok a w hO)
  rw [hm] at HC
  have HC : Hid (∀ w, OffAt w → Calls prog 57 #[.agg s.cells, .int .u32 (a : Nat)] w fun e w' => e = .returned (.iface 82 (.int .i64 20)) ∧ Below w.heap.size w w') := HC
  go_enter func26, ntmps26
  go_wp2_with (first | ((with_reducible refine bx_vp w.heap.size s ?_ ?_ ?_); exact rfl; exact rfl; intro W hr hb hz; have fx := hr.cell) | ((with_reducible refine al_vp (w.heap.size + 1) ?_ ?_); exact hz.out; intro W hq hb' hz'; replace hr := hr.bl (hz.out ▸ hb'); replace hb := hb.trans (hb'.mono (by omega)); replace hz := hz'; replace fx := hr.cell) | (go_at_call 57; (with_reducible refine (HC.out _ (hO.bl hb)).mono ?_); rintro e W ⟨rfl, hbc⟩; replace hr := hr.bl hbc; replace hq := hq.bl hbc; replace fx := hr.cell; replace hb := below_bl rfl hb hbc) | ((with_reducible refine ld_vp w.heap.size _ hr ?_ ?_ ?_); exact rfl; exact rfl) | ((with_reducible refine st_vp (w.heap.size + 1) _ zeroV hq ?_ ?_ ?_); exact rfl; exact rfl; intro W hnew ho; replace hr := hr.only ho (by omega); replace hq := hnew; replace hb := ho.bel _ _ (by omega) hb))
  refine bodyPost_ret (results_cell_two' results26 _ _ (w.heap.size + 1) _ _ _ rfl hq underlying39 rfl size_vp) rfl ?_
  exact ⟨rfl, hb⟩
theorem write_20 (s : V) (ok : s.Ok) (a v : Nat) (hv : v < 4294967296) (hm : accV s a = 0) (h : a = 20) (w : World) (hO : OffAt w) :
    StViWrite0 s a v w := by
  unfold StViWrite0
  have HV : writeV s a v = ((s.fsw v), -1, 0) := by unfold writeV; rw [if_pos hm]; unfold writeS; subst h; rfl
  rw [HV]; clear HV
  have HC := hide (fun w (hO : OffAt w) => acc_any s ok a w hO)
  rw [hm] at HC
  have HC : Hid (∀ w, OffAt w → Calls prog 57 #[.agg s.cells, .int .u32 (a : Nat)] w fun e w' => e = .returned (.nilIface) ∧ Below w.heap.size w w') := HC
  subst h
  rw [show ((20 : Nat) : Int) = 20 from rfl] at HC ⊢
  go_enter func26, ntmps26
  go_wp2_with (first | ((with_reducible refine bx_vp w.heap.size s ?_ ?_ ?_); exact rfl; exact rfl; intro W hr hb hz; have fx := hr.cell) | ((with_reducible refine al_vp (w.heap.size + 1) ?_ ?_); exact hz.out; intro W hq hb' hz'; replace hr := hr.bl (hz.out ▸ hb'); replace hb := hb.trans (hb'.mono (by omega)); replace hz := hz'; replace fx := hr.cell) | (go_at_call 57; (with_reducible refine (HC.out _ (hO.bl hb)).mono ?_); rintro e W ⟨rfl, hbc⟩; replace hr := hr.bl hbc; replace hq := hq.bl hbc; replace fx := hr.cell; replace hb := below_bl rfl hb hbc) | ((with_reducible refine st_fs w.heap.size _ v _ hr ?_ ?_ ?_); exact rfl; exact rfl; intro W hnew ho; replace hq := hq.only ho (by omega); replace hr := hnew; replace hb := ho.bel _ _ (by omega) hb; (try clear fx)) | ((with_reducible refine ld_vp w.heap.size _ hr ?_ ?_ ?_); exact rfl; exact rfl) | ((with_reducible refine st_vp (w.heap.size + 1) _ (s.fsw v) hq ?_ ?_ ?_); exact rfl; exact rfl; intro W hnew ho; replace hr := hr.only ho (by omega); replace hq := hnew; replace hb := ho.bel _ _ (by omega) hb))
  refine bodyPost_ret (results_cell_two' results26 _ _ (w.heap.size + 1) _ _ _ rfl hq underlying39 rfl size_vp) rfl ?_
  exact ⟨rfl, hb⟩
theorem write_36 (s : V) (ok : s.Ok) (a v : Nat) (hv : v < 4294967296) (hm : accV s a = 0) (h : a = 36) (w : World) (hO : OffAt w) :
    StViWrite0 s a v w := by
  unfold StViWrite0
  have HV : writeV s a v = ((s.dsw v), -1, 0) := by unfold writeV; rw [if_pos hm]; unfold writeS; subst h; rfl
  rw [HV]; clear HV
  have HC := hide (fun w (hO : OffAt w) => acc_any s ok a w hO)
  rw [hm] at HC
  have HC : Hid (∀ w, OffAt w → Calls prog 57 #[.agg s.cells, .int .u32 (a : Nat)] w fun e w' => e = .returned (.nilIface) ∧ Below w.heap.size w w') := HC
  subst h
  rw [show ((36 : Nat) : Int) = 36 from rfl] at HC ⊢
  go_enter func26, ntmps26
  go_wp2_with (first | ((with_reducible refine bx_vp w.heap.size s ?_ ?_ ?_); exact rfl; exact rfl; intro W hr hb hz; have fx := hr.cell) | ((with_reducible refine al_vp (w.heap.size + 1) ?_ ?_); exact hz.out; intro W hq hb' hz'; replace hr := hr.bl (hz.out ▸ hb'); replace hb := hb.trans (hb'.mono (by omega)); replace hz := hz'; replace fx := hr.cell) | (go_at_call 57; (with_reducible refine (HC.out _ (hO.bl hb)).mono ?_); rintro e W ⟨rfl, hbc⟩; replace hr := hr.bl hbc; replace hq := hq.bl hbc; replace fx := hr.cell; replace hb := below_bl rfl hb hbc) | ((with_reducible refine st_ds w.heap.size _ v _ hr ?_ ?_ ?_); exact rfl; exact rfl; intro W hnew ho; replace hq := hq.only ho (by omega); replace hr := hnew; replace hb := ho.bel _ _ (by omega) hb; (try clear fx)) | ((with_reducible refine ld_vp w.heap.size _ hr ?_ ?_ ?_); exact rfl; exact rfl) | ((with_reducible refine st_vp (w.heap.size + 1) _ (s.dsw v) hq ?_ ?_ ?_); exact rfl; exact rfl; intro W hnew ho; replace hr := hr.only ho (by omega); replace hq := hnew; replace hb := ho.bel _ _ (by omega) hb))
  refine bodyPost_ret (results_cell_two' results26 _ _ (w.heap.size + 1) _ _ _ rfl hq underlying39 rfl size_vp) rfl ?_
  exact ⟨rfl, hb⟩
theorem write_48 (s : V) (ok : s.Ok) (a v : Nat) (hv : v < 4294967296) (hm : accV s a = 0) (h : a = 48) (w : World) (hO : OffAt w) :
    StViWrite0 s a v w := by
  unfold StViWrite0
  have HV : writeV s a v = ((s.sew v), -1, 0) := by unfold writeV; rw [if_pos hm]; unfold writeS; subst h; rfl
  rw [HV]; clear HV
  have HC := hide (fun w (hO : OffAt w) => acc_any s ok a w hO)
  rw [hm] at HC
  have HC : Hid (∀ w, OffAt w → Calls prog 57 #[.agg s.cells, .int .u32 (a : Nat)] w fun e w' => e = .returned (.nilIface) ∧ Below w.heap.size w w') := HC
  subst h
  rw [show ((48 : Nat) : Int) = 48 from rfl] at HC ⊢
  go_enter func26, ntmps26
  go_wp2_with (first | ((with_reducible refine bx_vp w.heap.size s ?_ ?_ ?_); exact rfl; exact rfl; intro W hr hb hz; have fx := hr.cell) | ((with_reducible refine al_vp (w.heap.size + 1) ?_ ?_); exact hz.out; intro W hq hb' hz'; replace hr := hr.bl (hz.out ▸ hb'); replace hb := hb.trans (hb'.mono (by omega)); replace hz := hz'; replace fx := hr.cell) | (go_at_call 57; (with_reducible refine (HC.out _ (hO.bl hb)).mono ?_); rintro e W ⟨rfl, hbc⟩; replace hr := hr.bl hbc; replace hq := hq.bl hbc; replace fx := hr.cell; replace hb := below_bl rfl hb hbc) | ((with_reducible refine st_se w.heap.size _ v _ hr ?_ ?_ ?_); exact rfl; exact rfl; intro W hnew ho; replace hq := hq.only ho (by omega); replace hr := hnew; replace hb := ho.bel _ _ (by omega) hb; (try clear fx)) | ((with_reducible refine ld_vp w.heap.size _ hr ?_ ?_ ?_); exact rfl; exact rfl) | ((with_reducible refine st_vp (w.heap.size + 1) _ (s.sew v) hq ?_ ?_ ?_); exact rfl; exact rfl; intro W hnew ho; replace hr := hr.only ho (by omega); replace hq := hnew; replace hb := ho.bel _ _ (by omega) hb))
  refine bodyPost_ret (results_cell_two' results26 _ _ (w.heap.size + 1) _ _ _ rfl hq underlying39 rfl size_vp) rfl ?_
  exact ⟨rfl, hb⟩
theorem write_32 (s : V) (ok : s.Ok) (a v : Nat) (hv : v < 4294967296) (hm : accV s a = 0) (h : a = 32) (w : World) (hO : OffAt w) :
    StViWrite0 s a v w := by
  unfold StViWrite0
  have HV : writeV s a v = (askV s v, -1, 0) := by unfold writeV; rw [if_pos hm]; unfold writeS; subst h; rfl
  rw [HV]; clear HV
  have HC := hide (fun w (hO : OffAt w) => acc_any s ok a w hO)
  rw [hm] at HC
  have HC : Hid (∀ w, OffAt w → Calls prog 57 #[.agg s.cells, .int .u32 (a : Nat)] w fun e w' => e = .returned (.nilIface) ∧ Below w.heap.size w w') := HC
  have HA := hide (fun w => ask_any s ok v hv w)
  generalize askV s v = z at HA ⊢
  subst h
  rw [show ((32 : Nat) : Int) = 32 from rfl] at HC ⊢
  go_enter func26, ntmps26
  go_wp2_with (first | ((with_reducible refine bx_vp w.heap.size s ?_ ?_ ?_); exact rfl; exact rfl; intro W hr hb hz; have fx := hr.cell) | ((with_reducible refine al_vp (w.heap.size + 1) ?_ ?_); exact hz.out; intro W hq hb' hz'; replace hr := hr.bl (hz.out ▸ hb'); replace hb := hb.trans (hb'.mono (by omega)); replace hz := hz'; replace fx := hr.cell) | (go_at_call 57; (with_reducible refine (HC.out _ (hO.bl hb)).mono ?_); rintro e W ⟨rfl, hbc⟩; replace hr := hr.bl hbc; replace hq := hq.bl hbc; replace fx := hr.cell; replace hb := below_bl rfl hb hbc) | (go_at_call 60; (with_reducible refine (HA.out _).mono ?_); rintro e W ⟨rfl, hbc⟩; replace hr := hr.bl hbc; replace hq := hq.bl hbc; replace fx := hr.cell; replace hb := below_bl rfl hb hbc) | ((with_reducible refine st_vp w.heap.size _ z hr ?_ ?_ ?_); exact rfl; exact rfl; intro W hnew ho; replace hq := hq.only ho (by omega); replace hr := hnew; replace hb := ho.bel _ _ (by omega) hb) | ((with_reducible refine ld_vp w.heap.size _ hr ?_ ?_ ?_); exact rfl; exact rfl) | ((with_reducible refine st_vp (w.heap.size + 1) _ z hq ?_ ?_ ?_); exact rfl; exact rfl; intro W hnew ho; replace hr := hr.only ho (by omega); replace hq := hnew; replace hb := ho.bel _ _ (by omega) hb))
  refine bodyPost_ret (results_cell_two' results26 _ _ (w.heap.size + 1) _ _ _ rfl hq underlying39 rfl size_vp) rfl ?_
  exact ⟨rfl, hb⟩
theorem write_112 (s : V) (ok : s.Ok) (a v : Nat) (hv : v < 4294967296) (hm : accV s a = 0) (h : a = 112) (w : World) (hO : OffAt w) :
    StViWrite0 s a v w := by
  unfold StViWrite0
  have HV : writeV s a v = (statV s v, -1, 0) := by unfold writeV; rw [if_pos hm]; unfold writeS; subst h; rfl
  rw [HV]; clear HV
  have HC := hide (fun w (hO : OffAt w) => acc_any s ok a w hO)
  rw [hm] at HC
  have HC : Hid (∀ w, OffAt w → Calls prog 57 #[.agg s.cells, .int .u32 (a : Nat)] w fun e w' => e = .returned (.nilIface) ∧ Below w.heap.size w w') := HC
  have HA := hide (fun w (hO : OffAt w) => stat_any s ok v hv w hO)
  generalize statV s v = z at HA ⊢
  subst h
  rw [show ((112 : Nat) : Int) = 112 from rfl] at HC ⊢
  go_enter func26, ntmps26
  go_wp2_with (first | ((with_reducible refine bx_vp w.heap.size s ?_ ?_ ?_); exact rfl; exact rfl; intro W hr hb hz; have fx := hr.cell) | ((with_reducible refine al_vp (w.heap.size + 1) ?_ ?_); exact hz.out; intro W hq hb' hz'; replace hr := hr.bl (hz.out ▸ hb'); replace hb := hb.trans (hb'.mono (by omega)); replace hz := hz'; replace fx := hr.cell) | (go_at_call 57; (with_reducible refine (HC.out _ (hO.bl hb)).mono ?_); rintro e W ⟨rfl, hbc⟩; replace hr := hr.bl hbc; replace hq := hq.bl hbc; replace fx := hr.cell; replace hb := below_bl rfl hb hbc) | (go_at_call 62; (with_reducible refine (HA.out _ (hO.bl hb)).mono ?_); rintro e W ⟨rfl, hbc⟩; replace hr := hr.bl hbc; replace hq := hq.bl hbc; replace fx := hr.cell; replace hb := below_bl rfl hb hbc) | ((with_reducible refine st_vp w.heap.size _ z hr ?_ ?_ ?_); exact rfl; exact rfl; intro W hnew ho; replace hq := hq.only ho (by omega); replace hr := hnew; replace hb := ho.bel _ _ (by omega) hb) | ((with_reducible refine ld_vp w.heap.size _ hr ?_ ?_ ?_); exact rfl; exact rfl) | ((with_reducible refine st_vp (w.heap.size + 1) _ z hq ?_ ?_ ?_); exact rfl; exact rfl; intro W hnew ho; replace hr := hr.only ho (by omega); replace hq := hnew; replace hb := ho.bel _ _ (by omega) hb))
  refine bodyPost_ret (results_cell_two' results26 _ _ (w.heap.size + 1) _ _ _ rfl hq underlying39 rfl size_vp) rfl ?_
  exact ⟨rfl, hb⟩
theorem write_100 (s : V) (ok : s.Ok) (a v : Nat) (hv : v < 4294967296) (hm : accV s a = 0) (h : a = 100) (w : World) (hO : OffAt w) :
    StViWrite0 s a v w := by
  unfold StViWrite0
  have HV : writeV s a v = ((s.irw (s.ir &&& (4294967295 - v))), -1, 0) := by unfold writeV; rw [if_pos hm]; unfold writeS; subst h; rfl
  rw [HV]; clear HV
  have HC := hide (fun w (hO : OffAt w) => acc_any s ok a w hO)
  rw [hm] at HC
  have HC : Hid (∀ w, OffAt w → Calls prog 57 #[.agg s.cells, .int .u32 (a : Nat)] w fun e w' => e = .returned (.nilIface) ∧ Below w.heap.size w w') := HC
  have HB := hide (u32_andNot_nat s.ir v ok.ir hv)
  subst h
  rw [show ((100 : Nat) : Int) = 100 from rfl] at HC ⊢
  go_enter func26, ntmps26
  go_wp2_with (first | ((with_reducible refine bx_vp w.heap.size s ?_ ?_ ?_); exact rfl; exact rfl; intro W hr hb hz; have fx := hr.cell) | ((with_reducible refine al_vp (w.heap.size + 1) ?_ ?_); exact hz.out; intro W hq hb' hz'; replace hr := hr.bl (hz.out ▸ hb'); replace hb := hb.trans (hb'.mono (by omega)); replace hz := hz'; replace fx := hr.cell) | (go_at_call 57; (with_reducible refine (HC.out _ (hO.bl hb)).mono ?_); rintro e W ⟨rfl, hbc⟩; replace hr := hr.bl hbc; replace hq := hq.bl hbc; replace fx := hr.cell; replace hb := below_bl rfl hb hbc) | ((with_reducible refine st_ir w.heap.size _ (s.ir &&& (4294967295 - v)) _ hr ?_ ?_ ?_); exact rfl; exact congrArg (Value.int .u32) HB.out; intro W hnew ho; replace hq := hq.only ho (by omega); replace hr := hnew; replace hb := ho.bel _ _ (by omega) hb; (try clear fx)) | ((with_reducible refine ld_vp w.heap.size _ hr ?_ ?_ ?_); exact rfl; exact rfl) | ((with_reducible refine st_vp (w.heap.size + 1) _ (s.irw (s.ir &&& (4294967295 - v))) hq ?_ ?_ ?_); exact rfl; exact rfl; intro W hnew ho; replace hr := hr.only ho (by omega); replace hq := hnew; replace hb := ho.bel _ _ (by omega) hb))
  refine bodyPost_ret (results_cell_two' results26 _ _ (w.heap.size + 1) _ _ _ rfl hq underlying39 rfl size_vp) rfl ?_
  exact ⟨rfl, hb⟩
theorem vwrite_far (s : V) (ok : s.Ok) (a v : Nat) (hv : v < 4294967296) (hm : accV s a = 0) (n20 : a ≠ 20) (n36 : a ≠ 36) (n32 : a ≠ 32) (n48 : a ≠ 48) (n80 : a ≠ 80) (n100 : a ≠ 100) (n112 : a ≠ 112) (hs : 2 ≤ s.se) (w : World) (hO : OffAt w) :
    StViWrite0 s a v w := by
  unfold StViWrite0
  have HV : writeV s a v = (s, -1, 0) := by unfold writeV; rw [if_pos hm]; unfold writeS; rw [if_neg n20, if_neg n36, if_neg n32, if_neg n48, if_neg n80, if_neg n100, if_neg n112, if_neg (show ¬ s.se < 2 by omega)]
  rw [HV]; clear HV
  have HC := hide (fun w (hO : OffAt w) => acc_any s ok a w hO)
  rw [hm] at HC
  have HC : Hid (∀ w, OffAt w → Calls prog 57 #[.agg s.cells, .int .u32 (a : Nat)] w fun e w' => e = .returned (.nilIface) ∧ Below w.heap.size w w') := HC
  have l20 : ((a : Int) == 20) = false := by simp; omega
  have m20 : (a == 20) = false := by simp; omega
  have l36 : ((a : Int) == 36) = false := by simp; omega
  have m36 : (a == 36) = false := by simp; omega
  have l32 : ((a : Int) == 32) = false := by simp; omega
  have m32 : (a == 32) = false := by simp; omega
  have l48 : ((a : Int) == 48) = false := by simp; omega
  have m48 : (a == 48) = false := by simp; omega
  have l80 : ((a : Int) == 80) = false := by simp; omega
  have m80 : (a == 80) = false := by simp; omega
  have l100 : ((a : Int) == 100) = false := by simp; omega
  have m100 : (a == 100) = false := by simp; omega
  have l112 : ((a : Int) == 112) = false := by simp; omega
  have m112 : (a == 112) = false := by simp; omega
  have lt : decide ((s.se : Int) < 2) = false := by simp; omega
  have ltb : decide (s.se < 2) = false := by simp; omega
  clear n20 n36 n32 n48 n80 n100 n112
  go_enter func26, ntmps26
  go_wp2_with (first | ((with_reducible refine bx_vp w.heap.size s ?_ ?_ ?_); exact rfl; exact rfl; intro W hr hb hz; have fx := hr.cell) | ((with_reducible refine al_vp (w.heap.size + 1) ?_ ?_); exact hz.out; intro W hq hb' hz'; replace hr := hr.bl (hz.out ▸ hb'); replace hb := hb.trans (hb'.mono (by omega)); replace hz := hz'; replace fx := hr.cell) | (go_at_call 57; (with_reducible refine (HC.out _ (hO.bl hb)).mono ?_); rintro e W ⟨rfl, hbc⟩; replace hr := hr.bl hbc; replace hq := hq.bl hbc; replace fx := hr.cell; replace hb := below_bl rfl hb hbc) | ((with_reducible refine ld_vp w.heap.size _ hr ?_ ?_ ?_); exact rfl; exact rfl) | ((with_reducible refine st_vp (w.heap.size + 1) _ s hq ?_ ?_ ?_); exact rfl; exact rfl; intro W hnew ho; replace hr := hr.only ho (by omega); replace hq := hnew; replace hb := ho.bel _ _ (by omega) hb))
  refine bodyPost_ret (results_cell_two' results26 _ _ (w.heap.size + 1) _ _ _ rfl hq underlying39 rfl size_vp) rfl ?_
  exact ⟨rfl, hb⟩
theorem write_q (s : V) (ok : s.Ok) (a v : Nat) (hv : v < 4294967296) (hm : accV s a = 0) (n20 : a ≠ 20) (n36 : a ≠ 36) (n32 : a ≠ 32) (n48 : a ≠ 48) (n80 : a ≠ 80) (n100 : a ≠ 100) (n112 : a ≠ 112) (hs : s.se < 2) (w : World) (hO : OffAt w) :
    StViWrite0 s a v w := by
  unfold StViWrite0
  have HV : writeV s a v = (wqV s a v, -1, 0) := by unfold writeV; rw [if_pos hm]; unfold writeS; rw [if_neg n20, if_neg n36, if_neg n32, if_neg n48, if_neg n80, if_neg n100, if_neg n112, if_pos hs]
  rw [HV]; clear HV
  have HC := hide (fun w (hO : OffAt w) => acc_any s ok a w hO)
  rw [hm] at HC
  have HC : Hid (∀ w, OffAt w → Calls prog 57 #[.agg s.cells, .int .u32 (a : Nat)] w fun e w' => e = .returned (.nilIface) ∧ Below w.heap.size w w') := HC
  have HA := hide (fun w => wq_any s ok a v hv hs w)
  generalize wqV s a v = z at HA ⊢
  have l20 : ((a : Int) == 20) = false := by simp; omega
  have m20 : (a == 20) = false := by simp; omega
  have l36 : ((a : Int) == 36) = false := by simp; omega
  have m36 : (a == 36) = false := by simp; omega
  have l32 : ((a : Int) == 32) = false := by simp; omega
  have m32 : (a == 32) = false := by simp; omega
  have l48 : ((a : Int) == 48) = false := by simp; omega
  have m48 : (a == 48) = false := by simp; omega
  have l80 : ((a : Int) == 80) = false := by simp; omega
  have m80 : (a == 80) = false := by simp; omega
  have l100 : ((a : Int) == 100) = false := by simp; omega
  have m100 : (a == 100) = false := by simp; omega
  have l112 : ((a : Int) == 112) = false := by simp; omega
  have m112 : (a == 112) = false := by simp; omega
  have lt : (s.se : Int) < 2 := by omega
  clear n20 n36 n32 n48 n80 n100 n112
  go_enter func26, ntmps26
  go_wp2_with (first | ((with_reducible refine bx_vp w.heap.size s ?_ ?_ ?_); exact rfl; exact rfl; intro W hr hb hz; have fx := hr.cell) | ((with_reducible refine al_vp (w.heap.size + 1) ?_ ?_); exact hz.out; intro W hq hb' hz'; replace hr := hr.bl (hz.out ▸ hb'); replace hb := hb.trans (hb'.mono (by omega)); replace hz := hz'; replace fx := hr.cell) | (go_at_call 57; (with_reducible refine (HC.out _ (hO.bl hb)).mono ?_); rintro e W ⟨rfl, hbc⟩; replace hr := hr.bl hbc; replace hq := hq.bl hbc; replace fx := hr.cell; replace hb := below_bl rfl hb hbc) | (go_at_call 63; (with_reducible refine (HA.out _).mono ?_); rintro e W ⟨rfl, hbc⟩; replace hr := hr.bl hbc; replace hq := hq.bl hbc; replace fx := hr.cell; replace hb := below_bl rfl hb hbc) | ((with_reducible refine st_vp w.heap.size _ z hr ?_ ?_ ?_); exact rfl; exact rfl; intro W hnew ho; replace hq := hq.only ho (by omega); replace hr := hnew; replace hb := ho.bel _ _ (by omega) hb) | ((with_reducible refine ld_vp w.heap.size _ hr ?_ ?_ ?_); exact rfl; exact rfl) | ((with_reducible refine st_vp (w.heap.size + 1) _ z hq ?_ ?_ ?_); exact rfl; exact rfl; intro W hnew ho; replace hr := hr.only ho (by omega); replace hq := hnew; replace hb := ho.bel _ _ (by omega) hb))
  refine bodyPost_ret (results_cell_two' results26 _ _ (w.heap.size + 1) _ _ _ rfl hq underlying39 rfl size_vp) rfl ?_
  exact ⟨rfl, hb⟩
theorem write_80 (s : V) (ok : s.Ok) (a v : Nat) (hv : v < 4294967296) (hm : accV s a = 0) (h : a = 80) (w : World) (hO : OffAt w) :
    StViWrite0 s a v w := by
  unfold StViWrite0
  have HV : writeV s a v = (s, notV s v, 0) := by unfold writeV; rw [if_pos hm]; unfold writeS; subst h; rfl
  rw [HV]; clear HV
  have HC := hide (fun w (hO : OffAt w) => acc_any s ok a w hO)
  rw [hm] at HC
  have HC : Hid (∀ w, OffAt w → Calls prog 57 #[.agg s.cells, .int .u32 (a : Nat)] w fun e w' => e = .returned (.nilIface) ∧ Below w.heap.size w w') := HC
  have HA := hide (fun w => not_any s ok v w)
  generalize notV s v = z at HA ⊢
  subst h
  rw [show ((80 : Nat) : Int) = 80 from rfl] at HC ⊢
  go_enter func26, ntmps26
  go_wp2_with (first | ((with_reducible refine bx_vp w.heap.size s ?_ ?_ ?_); exact rfl; exact rfl; intro W hr hb hz; have fx := hr.cell) | ((with_reducible refine al_vp (w.heap.size + 1) ?_ ?_); exact hz.out; intro W hq hb' hz'; replace hr := hr.bl (hz.out ▸ hb'); replace hb := hb.trans (hb'.mono (by omega)); replace hz := hz'; replace fx := hr.cell) | ((with_reducible refine ld_vp w.heap.size _ hr ?_ ?_ ?_); exact rfl; exact rfl) | (go_at_call 57; (with_reducible refine (HC.out _ (hO.bl hb)).mono ?_); rintro e W ⟨rfl, hbc⟩; replace hr := hr.bl hbc; replace hq := hq.bl hbc; replace fx := hr.cell; replace hb := below_bl rfl hb hbc))
  refine wp_region_held_drew (S := (fun V => RowAt V w.heap.size s.cells 39 ∧ Below w.heap.size w V)) (by kernel_rfl) ?_ (fun hHeld => ?_)
  · exact ⟨hr.dr, hb.drew⟩
  replace hq := hq.dr
  generalize W.drew = V at hHeld hq ⊢
  clear hr hb hz fx
  refine tkO 0 (.agg s.cells) (by simp only [gT, gZ]; rfl) (y_vp w.heap.size s (fun V hV => hV.1) rfl rfl) ?_
  simp only [Act.put, pA, pZ, pS]
  refine tkO 1 (.agg s.cells) (by simp only [gT, gZ, gS]; rfl) (y_vp w.heap.size s (fun V hV => hV.1) rfl rfl) ?_
  simp only [Act.put, pA, pZ, pS]
  refine tkO 2 (.int .u32 (v : Nat)) (by simp only [gT, gZ, gS]; rfl) (puO (by (intro w hSw; (try dsimp only at hSw); go_simp))) ?_
  simp only [Act.put, pA, pZ, pS]
  refine skO 3 (by simp only [gT, gZ, gS]; rfl) (fun K hK => ?_)
  go_simp
  (with_reducible refine (HA.out _).mono ?_)
  rintro e V ⟨rfl, hbc⟩
  have hH2 := hide (And.intro (hHeld.1.bl hbc) (below_bl rfl hHeld.2 hbc))
  replace hq := hq.bl hbc
  clear hHeld hbc
  go_simp
  refine hK.out _ _ ?_ (fun hHeld => ?_)
  · exact hH2.out
  clear hK K
  clear hH2
  refine skO 4 (by simp only [gT, gZ, gS]; rfl) (fun K hK => ?_)
  rw [if_pos (by rfl)]
  (with_reducible refine s_vp (w.heap.size + 1) _ s hq ?_ ?_ ?_)
  · exact rfl
  · exact rfl
  intro V hnew ho
  have hH2 := hide (And.intro (hHeld.1.only ho (by omega)) (ho.bel _ _ (by omega) hHeld.2))
  replace hq := hnew
  clear hHeld
  refine hK.out _ _ ?_ (fun hHeld => ?_)
  · exact hH2.out
  clear hK K
  clear hH2
  refine tkO 5 (.int .i64 z) (by simp only [gT, gZ, gS]; rfl) (puO (by (intro w hSw; (try dsimp only at hSw); go_simp))) ?_
  simp only [Act.put, pA, pZ, pS]
  refine tkO 6 (.nilIface) (by simp only [gT, gZ, gS]; rfl) (puO (by (intro w hSw; (try dsimp only at hSw); go_simp))) ?_
  simp only [Act.put, pA, pZ, pS]
  refine wpAnyH_done (by kernel_rfl) ?_ _
  have hb := hHeld.2
  clear hHeld
  go_wp2
  refine bodyPost_ret (results_cell_two' results26 _ _ (w.heap.size + 1) _ _ _ rfl hq underlying39 rfl size_vp) rfl ?_
  exact ⟨rfl, hb⟩
theorem write_any (s : V) (ok : s.Ok) (a v : Nat) (hv : v < 4294967296) (w : World) (hO : OffAt w) : Calls prog 26 #[.agg s.cells, .int .u32 (a : Nat), .int .u32 (v : Nat)] w fun e w' => e = .returned (.tuple #[.agg (writeV s a v).1.cells, .int .i64 (writeV s a v).2.1, errR (writeV s a v).2.2]) ∧ Below w.heap.size w w' := by
  rcases accV_cases s a with hm | hm | hm
  · by_cases n20 : a = 20
    · exact write_20 s ok a v hv hm n20 w hO
    by_cases n36 : a = 36
    · exact write_36 s ok a v hv hm n36 w hO
    by_cases n32 : a = 32
    · exact write_32 s ok a v hv hm n32 w hO
    by_cases n48 : a = 48
    · exact write_48 s ok a v hv hm n48 w hO
    by_cases n80 : a = 80
    · exact write_80 s ok a v hv hm n80 w hO
    by_cases n100 : a = 100
    · exact write_100 s ok a v hv hm n100 w hO
    by_cases n112 : a = 112
    · exact write_112 s ok a v hv hm n112 w hO
    by_cases h2 : s.se < 2
    · exact write_q s ok a v hv hm n20 n36 n32 n48 n80 n100 n112 h2 w hO
    · exact vwrite_far s ok a v hv hm n20 n36 n32 n48 n80 n100 n112 (by omega) w hO
  · exact write_e1 s ok a v hv hm w hO
  · exact write_e20 s ok a v hv hm w hO
end Go.Proofs.YtbggkoahofnnjaaGreatDoor
namespace Go.Proofs.YtbggkoahofnnjaaGreatDoor
open Go.RowKit
set_option maxRecDepth 20000
set_option maxHeartbeats 2000000
attribute [local go_sem] V.at0 V.at1 V.at2 V.at3 V.at4 V.at5 V.at6 V.at7 V.at8 V.at9 V.at10 V.at11 V.at12 V.at13 V.at14 V.at15 V.at16 V.at17 V.at18 V.at19 V.at20 Qu.at0 Qu.at1 Qu.at2 Qu.at3 Qu.at4 Qu.at5 Qu.at6
def qui (ir v : Nat) : Nat → Nat
  | 0 => ir
  | k + 1 => if v.testBit k = true then clrB (qui ir v k) k else qui ir v k
def StViRWrC0 (s : V) (a : Nat) (v : Nat) (w : World) : Prop := Calls prog 27 #[.agg s.cells, .int .u32 (a : Nat), .int .u32 (v : Nat)] w fun e w' => e = .returned (.tuple #[.agg (writeV s a v).1.cells, .int .i64 (writeV s a v).2.1, .int .i64 ((writeV s a v).2.2 : Nat)]) ∧ Below w.heap.size w w'
theorem qui_lt {ir : Nat} (h : ir < 4294967296) (v k : Nat) : qui ir v k < 4294967296 := by
  cases k with
  | zero => exact h
  | succ k =>
    induction k with
    | zero => unfold qui; split; (exact clrB_lt _ _); exact h
    | succ k ih => unfold qui; split; (exact clrB_lt _ _); exact ih
theorem tb_notV (b i : Nat) (hb : b < 4294967296) : (4294967295 - b).testBit i = (decide (i < 32) && !b.testBit i) := by
  have := Nat.testBit_two_pow_sub_succ (n := 32) (x := b) hb i
  rw [show 2 ^ 32 - (b + 1) = 4294967295 - b by omega] at this
  exact this
theorem qui_2 {ir v : Nat} (h : ir ≤ 3) (hv : v < 4294967296) : qui ir v 2 = ir &&& (4294967295 - v) := by
  have hl : ir < 4294967296 := by omega
  apply Nat.eq_of_testBit_eq
  intro i
  rw [Nat.testBit_and, tb_notV v i hv]
  have h1 : ∀ i, (qui ir v 1).testBit i = if i = 0 ∧ v.testBit 0 = true then false else ir.testBit i := by
    intro i
    show (if v.testBit 0 = true then clrB ir 0 else ir).testBit i = _
    cases hb : v.testBit 0 with
    | false => simp
    | true =>
      rw [if_pos rfl, clrB_tb ir 0 hl (by decide) i]
      by_cases e : i = 0 <;> simp [e]
  have h2 : (qui ir v 2).testBit i = if i = 1 ∧ v.testBit 1 = true then false else (qui ir v 1).testBit i := by
    show (if v.testBit 1 = true then clrB (qui ir v 1) 1 else qui ir v 1).testBit i = _
    cases hb : v.testBit 1 with
    | false => simp
    | true =>
      rw [if_pos rfl, clrB_tb _ 1 (qui_lt hl v 1) (by decide) i]
      by_cases e : i = 1 <;> simp [e]
  rw [h2, h1]
  by_cases e0 : i = 0
  · subst e0; cases v.testBit 0 <;> simp
  by_cases e1 : i = 1
  · subst e1; cases v.testBit 1 <;> simp
  · rw [if_neg (fun h => e1 h.1), if_neg (fun h => e0 h.1), Nat.testBit_lt_two_pow (show ir < 2 ^ i from Nat.lt_of_lt_of_le (show ir < 2 ^ 2 by omega) (Nat.pow_le_pow_right (by decide) (by omega))), Bool.false_and]
theorem rwr_112 (s : V) (ok : s.Ok) (a v : Nat) (hv : v < 4294967296) (hm : accV s a = 0) (h : a = 112) (w : World) :
    StViRWrC0 s a v w := by
  unfold StViRWrC0
  have HV : writeV s a v = (statV s v, -1, 0) := by unfold writeV; rw [if_pos hm]; unfold writeS; subst h; rfl
  rw [HV]; clear HV
  have HC := hide (fun w => rvcheck_any s ok w)
  rw [(accV_ok hm).1] at HC
  replace HC : Hid (∀ w, Calls prog 14 #[.agg s.cells] w fun e w' => e = .returned (.int .i64 0) ∧ Below w.heap.size w w') := HC
  have HA := hide (fun w => rstat_any s ok v hv w)
  generalize statV s v = z at HA ⊢
  subst h
  rw [show ((112 : Nat) : Int) = 112 from rfl]
  go_enter func27, ntmps27
  go_wp2_with (first | ((with_reducible refine bx_vr w.heap.size s ?_ ?_ ?_); exact rfl; exact rfl; intro W hr hb hz; have fx := hr.cell) | ((with_reducible refine al_vr (w.heap.size + 1) ?_ ?_); exact hz.out; intro W hq hb' hz'; replace hr := hr.bl (hz.out ▸ hb'); replace hb := hb.trans (hb'.mono (by omega)); replace hz := hz'; replace fx := hr.cell) | (go_at_call 14; (with_reducible refine (HC.out _).mono ?_); rintro e W ⟨rfl, hbc⟩; replace hr := hr.bl hbc; replace hq := hq.bl hbc; replace fx := hr.cell; replace hb := below_bl rfl hb hbc) | (go_at_call 65; (with_reducible refine (HA.out _).mono ?_); rintro e W ⟨rfl, hbc⟩; replace hr := hr.bl hbc; replace hq := hq.bl hbc; replace fx := hr.cell; replace hb := below_bl rfl hb hbc) | ((with_reducible refine ld_vr w.heap.size _ hr ?_ ?_ ?_); exact rfl; exact rfl) | ((with_reducible refine st_vr (w.heap.size + 1) _ z hq ?_ ?_ ?_); exact rfl; exact rfl; intro W hnew ho; replace hr := hr.only ho (by omega); replace hq := hnew; replace hb := ho.bel _ _ (by omega) hb))
  all_goals (refine bodyPost_ret (results_cell_two' results27 _ _ (w.heap.size + 1) _ _ _ rfl hq underlying31 rfl size_vr) rfl ?_; exact ⟨rfl, hb⟩)
theorem rwr_100_far (s : V) (ok : s.Ok) (a v : Nat) (hv : v < 4294967296) (hm : accV s a = 0) (h : a = 100) (hs : 2 ≤ s.se) (w : World) :
    StViRWrC0 s a v w := by
  unfold StViRWrC0
  have HV : writeV s a v = (s.irw (qui s.ir v 2), -1, 0) := by unfold writeV; rw [if_pos hm]; unfold writeS; subst h; rw [qui_2 ((mayV_iff s).1 (accV_ok hm).1).ir hv]; rfl
  rw [HV]; clear HV
  have HC := hide (fun w => rvcheck_any s ok w)
  rw [(accV_ok hm).1] at HC
  replace HC : Hid (∀ w, Calls prog 14 #[.agg s.cells] w fun e w' => e = .returned (.int .i64 0) ∧ Below w.heap.size w w') := HC
  obtain ⟨t, ht⟩ : ∃ t, s.irw (qui s.ir v 2) = t := ⟨_, rfl⟩
  have hs2 : 2 ≤ t.se := by rw [← ht]; exact hs
  rw [ht]
  have HT := hide ht
  clear ht hs
  have hs := hs2
  clear hs2
  have lse : (t.se : Int) > 1 := by omega
  have lseb : (1 : Int) < (t.se : Int) := by omega
  clear hs
  subst h
  rw [show ((100 : Nat) : Int) = 100 from rfl]
  go_enter func27, ntmps27
  go_wp2_with (first | ((with_reducible refine bx_vr w.heap.size s ?_ ?_ ?_); exact rfl; exact rfl; intro W hr hb hz; have fx := hr.cell) | ((with_reducible refine al_vr (w.heap.size + 1) ?_ ?_); exact hz.out; intro W hq hb' hz'; replace hr := hr.bl (hz.out ▸ hb'); replace hb := hb.trans (hb'.mono (by omega)); replace hz := hz'; replace fx := hr.cell) | (go_at_call 14; (with_reducible refine (HC.out _).mono ?_); rintro e W ⟨rfl, hbc⟩; replace hr := hr.bl hbc; replace hq := hq.bl hbc; replace fx := hr.cell; replace hb := below_bl rfl hb hbc) | ((with_reducible refine ld_vr w.heap.size _ hr ?_ ?_ ?_); exact rfl; exact rfl))
  clear fx
  go_loopw [9] (fun iv wr => ∃ i : Nat, i ≤ 2 ∧ iv = .int .i64 (i : Nat) ∧ RowAt wr w.heap.size (s.irw (qui s.ir v i)).cells 31 ∧ RowAt wr (w.heap.size + 1) zeroV.cells 31 ∧ Below w.heap.size w wr) (fun iv _ => 2 - (intOf iv).toNat)
  case atStart => exact ⟨0, by omega, rfl, hr, hq, hb⟩
  case round =>
    clear hr hq hb hz
    obtain ⟨i, hi, rfl, hr, hq, hb⟩ := hrel
    have hi3 : i = 0 ∨ i = 1 ∨ i = 2 := by omega
    rcases hi3 with rfl | rfl | rfl
    · have HX := hide (qui_lt ok.ir v 0)
      obtain ⟨X, hX⟩ : ∃ x, qui s.ir v 0 = x := ⟨_, rfl⟩
      rw [hX] at hr HX
      have HS := hide (fun w => rclr_0 (s.irw X).ir HX.out w)
      have H := hide (fun w => rhas_0 v hv w)
      cases hb0 : v.testBit 0 with
      | false =>
        have HN : Hid (qui s.ir v 1 = X) := hide (by show (if v.testBit 0 = true then clrB (qui s.ir v 0) 0 else qui s.ir v 0) = X; rw [hb0, if_neg (by decide)]; exact hX)
        rw [hb0] at H
        clear hX
        go_wp2_with (first | (go_at_call 30; (with_reducible refine (H.out _).mono ?_); rintro e W ⟨rfl, rfl⟩))
        go_roundw
        case rel => exact ⟨1, by omega, by go_num, by rw [HN.out]; exact hr, hq, hb⟩
        case measure => decide
      | true =>
        have HN : Hid (qui s.ir v 1 = clrB X 0) := hide (by show (if v.testBit 0 = true then clrB (qui s.ir v 0) 0 else qui s.ir v 0) = _; rw [hb0, if_pos rfl, hX])
        rw [hb0] at H
        clear hX
        go_wp2_with (first | (go_at_call 30; (with_reducible refine (H.out _).mono ?_); rintro e W ⟨rfl, rfl⟩) | ((with_reducible refine ld_ir w.heap.size _ _ hr ?_ ?_ ?_); exact rfl; exact rfl) | (go_at_call 64; (with_reducible refine (HS.out _).mono ?_); rintro e W ⟨rfl, hbc⟩; replace hr := hr.bl hbc; replace hq := hq.bl hbc; replace hb := below_bl rfl hb hbc) | ((with_reducible refine st_ir w.heap.size _ (clrB X 0) _ hr ?_ ?_ ?_); exact rfl; exact rfl; intro W hnew ho; replace hq := hq.only ho (by omega); replace hr := hnew; replace hb := ho.bel _ _ (by omega) hb; (try clear fx)))
        go_roundw
        case rel => exact ⟨1, by omega, by go_num, by rw [HN.out]; exact hr, hq, hb⟩
        case measure => decide
    · have HX := hide (qui_lt ok.ir v 1)
      obtain ⟨X, hX⟩ : ∃ x, qui s.ir v 1 = x := ⟨_, rfl⟩
      rw [hX] at hr HX
      have HS := hide (fun w => rclr_1 (s.irw X).ir HX.out w)
      have H := hide (fun w => rhas_1 v hv w)
      cases hb0 : v.testBit 1 with
      | false =>
        have HN : Hid (qui s.ir v 2 = X) := hide (by show (if v.testBit 1 = true then clrB (qui s.ir v 1) 1 else qui s.ir v 1) = X; rw [hb0, if_neg (by decide)]; exact hX)
        rw [hb0] at H
        clear hX
        go_wp2_with (first | (go_at_call 30; (with_reducible refine (H.out _).mono ?_); rintro e W ⟨rfl, rfl⟩))
        go_roundw
        case rel => exact ⟨2, by omega, by go_num, by rw [HN.out]; exact hr, hq, hb⟩
        case measure => decide
      | true =>
        have HN : Hid (qui s.ir v 2 = clrB X 1) := hide (by show (if v.testBit 1 = true then clrB (qui s.ir v 1) 1 else qui s.ir v 1) = _; rw [hb0, if_pos rfl, hX])
        rw [hb0] at H
        clear hX
        go_wp2_with (first | (go_at_call 30; (with_reducible refine (H.out _).mono ?_); rintro e W ⟨rfl, rfl⟩) | ((with_reducible refine ld_ir w.heap.size _ _ hr ?_ ?_ ?_); exact rfl; exact rfl) | (go_at_call 64; (with_reducible refine (HS.out _).mono ?_); rintro e W ⟨rfl, hbc⟩; replace hr := hr.bl hbc; replace hq := hq.bl hbc; replace hb := below_bl rfl hb hbc) | ((with_reducible refine st_ir w.heap.size _ (clrB X 1) _ hr ?_ ?_ ?_); exact rfl; exact rfl; intro W hnew ho; replace hq := hq.only ho (by omega); replace hr := hnew; replace hb := ho.bel _ _ (by omega) hb; (try clear fx)))
        go_roundw
        case rel => exact ⟨2, by omega, by go_num, by rw [HN.out]; exact hr, hq, hb⟩
        case measure => decide
    · rw [HT.out] at hr
      go_wp2_with (first | ((with_reducible refine ld_se w.heap.size _ _ hr ?_ ?_ ?_); exact rfl; exact rfl) | ((with_reducible refine ld_vr w.heap.size _ hr ?_ ?_ ?_); exact rfl; exact rfl) | ((with_reducible refine st_vr (w.heap.size + 1) _ t hq ?_ ?_ ?_); exact rfl; exact rfl; intro W hnew ho; replace hr := hr.only ho (by omega); replace hq := hnew; replace hb := ho.bel _ _ (by omega) hb))
      all_goals (refine bodyPost_ret (results_cell_two' results27 _ _ (w.heap.size + 1) _ _ _ rfl hq underlying31 rfl size_vr) rfl ?_; exact ⟨rfl, hb⟩)
theorem rwr_100_0 (s : V) (ok : s.Ok) (a v : Nat) (hv : v < 4294967296) (hm : accV s a = 0) (h : a = 100) (hs : s.se = 0) (w : World) :
    StViRWrC0 s a v w := by
  unfold StViRWrC0
  have HV : writeV s a v = (s.irw (qui s.ir v 2), -1, 0) := by unfold writeV; rw [if_pos hm]; unfold writeS; subst h; rw [qui_2 ((mayV_iff s).1 (accV_ok hm).1).ir hv]; rfl
  rw [HV]; clear HV
  have HC := hide (fun w => rvcheck_any s ok w)
  rw [(accV_ok hm).1] at HC
  replace HC : Hid (∀ w, Calls prog 14 #[.agg s.cells] w fun e w' => e = .returned (.int .i64 0) ∧ Below w.heap.size w w') := HC
  obtain ⟨t, ht⟩ : ∃ t, s.irw (qui s.ir v 2) = t := ⟨_, rfl⟩
  have hs2 : t.se = 0 := by rw [← ht]; exact hs
  rw [ht]
  have HT := hide ht
  clear ht hs
  have hs := hs2
  clear hs2
  have hse : ((t.se : Nat) : Int) = 0 := by omega
  clear hs
  subst h
  rw [show ((100 : Nat) : Int) = 100 from rfl]
  go_enter func27, ntmps27
  go_wp2_with (first | ((with_reducible refine bx_vr w.heap.size s ?_ ?_ ?_); exact rfl; exact rfl; intro W hr hb hz; have fx := hr.cell) | ((with_reducible refine al_vr (w.heap.size + 1) ?_ ?_); exact hz.out; intro W hq hb' hz'; replace hr := hr.bl (hz.out ▸ hb'); replace hb := hb.trans (hb'.mono (by omega)); replace hz := hz'; replace fx := hr.cell) | (go_at_call 14; (with_reducible refine (HC.out _).mono ?_); rintro e W ⟨rfl, hbc⟩; replace hr := hr.bl hbc; replace hq := hq.bl hbc; replace fx := hr.cell; replace hb := below_bl rfl hb hbc) | ((with_reducible refine ld_vr w.heap.size _ hr ?_ ?_ ?_); exact rfl; exact rfl))
  clear fx
  go_loopw [9] (fun iv wr => ∃ i : Nat, i ≤ 2 ∧ iv = .int .i64 (i : Nat) ∧ RowAt wr w.heap.size (s.irw (qui s.ir v i)).cells 31 ∧ RowAt wr (w.heap.size + 1) zeroV.cells 31 ∧ Below w.heap.size w wr) (fun iv _ => 2 - (intOf iv).toNat)
  case atStart => exact ⟨0, by omega, rfl, hr, hq, hb⟩
  case round =>
    clear hr hq hb hz
    obtain ⟨i, hi, rfl, hr, hq, hb⟩ := hrel
    have hi3 : i = 0 ∨ i = 1 ∨ i = 2 := by omega
    rcases hi3 with rfl | rfl | rfl
    · have HX := hide (qui_lt ok.ir v 0)
      obtain ⟨X, hX⟩ : ∃ x, qui s.ir v 0 = x := ⟨_, rfl⟩
      rw [hX] at hr HX
      have HS := hide (fun w => rclr_0 (s.irw X).ir HX.out w)
      have H := hide (fun w => rhas_0 v hv w)
      cases hb0 : v.testBit 0 with
      | false =>
        have HN : Hid (qui s.ir v 1 = X) := hide (by show (if v.testBit 0 = true then clrB (qui s.ir v 0) 0 else qui s.ir v 0) = X; rw [hb0, if_neg (by decide)]; exact hX)
        rw [hb0] at H
        clear hX
        go_wp2_with (first | (go_at_call 30; (with_reducible refine (H.out _).mono ?_); rintro e W ⟨rfl, rfl⟩))
        go_roundw
        case rel => exact ⟨1, by omega, by go_num, by rw [HN.out]; exact hr, hq, hb⟩
        case measure => decide
      | true =>
        have HN : Hid (qui s.ir v 1 = clrB X 0) := hide (by show (if v.testBit 0 = true then clrB (qui s.ir v 0) 0 else qui s.ir v 0) = _; rw [hb0, if_pos rfl, hX])
        rw [hb0] at H
        clear hX
        go_wp2_with (first | (go_at_call 30; (with_reducible refine (H.out _).mono ?_); rintro e W ⟨rfl, rfl⟩) | ((with_reducible refine ld_ir w.heap.size _ _ hr ?_ ?_ ?_); exact rfl; exact rfl) | (go_at_call 64; (with_reducible refine (HS.out _).mono ?_); rintro e W ⟨rfl, hbc⟩; replace hr := hr.bl hbc; replace hq := hq.bl hbc; replace hb := below_bl rfl hb hbc) | ((with_reducible refine st_ir w.heap.size _ (clrB X 0) _ hr ?_ ?_ ?_); exact rfl; exact rfl; intro W hnew ho; replace hq := hq.only ho (by omega); replace hr := hnew; replace hb := ho.bel _ _ (by omega) hb; (try clear fx)))
        go_roundw
        case rel => exact ⟨1, by omega, by go_num, by rw [HN.out]; exact hr, hq, hb⟩
        case measure => decide
    · have HX := hide (qui_lt ok.ir v 1)
      obtain ⟨X, hX⟩ : ∃ x, qui s.ir v 1 = x := ⟨_, rfl⟩
      rw [hX] at hr HX
      have HS := hide (fun w => rclr_1 (s.irw X).ir HX.out w)
      have H := hide (fun w => rhas_1 v hv w)
      cases hb0 : v.testBit 1 with
      | false =>
        have HN : Hid (qui s.ir v 2 = X) := hide (by show (if v.testBit 1 = true then clrB (qui s.ir v 1) 1 else qui s.ir v 1) = X; rw [hb0, if_neg (by decide)]; exact hX)
        rw [hb0] at H
        clear hX
        go_wp2_with (first | (go_at_call 30; (with_reducible refine (H.out _).mono ?_); rintro e W ⟨rfl, rfl⟩))
        go_roundw
        case rel => exact ⟨2, by omega, by go_num, by rw [HN.out]; exact hr, hq, hb⟩
        case measure => decide
      | true =>
        have HN : Hid (qui s.ir v 2 = clrB X 1) := hide (by show (if v.testBit 1 = true then clrB (qui s.ir v 1) 1 else qui s.ir v 1) = _; rw [hb0, if_pos rfl, hX])
        rw [hb0] at H
        clear hX
        go_wp2_with (first | (go_at_call 30; (with_reducible refine (H.out _).mono ?_); rintro e W ⟨rfl, rfl⟩) | ((with_reducible refine ld_ir w.heap.size _ _ hr ?_ ?_ ?_); exact rfl; exact rfl) | (go_at_call 64; (with_reducible refine (HS.out _).mono ?_); rintro e W ⟨rfl, hbc⟩; replace hr := hr.bl hbc; replace hq := hq.bl hbc; replace hb := below_bl rfl hb hbc) | ((with_reducible refine st_ir w.heap.size _ (clrB X 1) _ hr ?_ ?_ ?_); exact rfl; exact rfl; intro W hnew ho; replace hq := hq.only ho (by omega); replace hr := hnew; replace hb := ho.bel _ _ (by omega) hb; (try clear fx)))
        go_roundw
        case rel => exact ⟨2, by omega, by go_num, by rw [HN.out]; exact hr, hq, hb⟩
        case measure => decide
    · rw [HT.out] at hr
      go_wp2_with (first | ((with_reducible refine ld_se w.heap.size _ _ hr ?_ ?_ ?_); exact rfl; exact rfl) | ((with_reducible refine ld_q0r w.heap.size _ _ hr ?_ ?_ ?_); exact rfl; exact rfl) | (obtain ⟨NQ, hNQ⟩ : ∃ n, wr.heap.size = n := ⟨_, rfl⟩; have lNQ : w.heap.size + 2 ≤ NQ := (by (have := hq.lt; omega)); (with_reducible refine al_qr NQ ?_ ?_); exact hNQ; intro W hu hb' hz'; replace hr := hr.bl (hNQ ▸ hb'); replace hq := hq.bl (hNQ ▸ hb'); replace hb := hb.trans (hb'.mono (by omega)); clear hNQ hb' hz'; (try clear fx)) | ((with_reducible refine st_qr NQ _ t.q0 hu ?_ ?_ ?_); exact rfl; exact rfl; intro W hnew ho; replace hr := hr.only ho (by omega); replace hq := hq.only ho (by omega); replace hu := hnew; replace hb := ho.bel _ _ (by omega) hb) | ((with_reducible refine ld_urd NQ _ _ hu ?_ ?_ ?_); exact rfl; exact rfl) | ((with_reducible refine ld_qr NQ _ hu ?_ ?_ ?_); exact rfl; exact rfl) | ((with_reducible refine st_q0r w.heap.size _ t.q0 _ hr ?_ ?_ ?_); exact rfl; exact rfl; intro W hnew ho; replace hq := hq.only ho (by omega); replace hu := hu.only ho (by omega); replace hr := hnew; replace hb := ho.bel _ _ (by omega) hb) | ((with_reducible refine ld_vr w.heap.size _ hr ?_ ?_ ?_); exact rfl; exact rfl) | ((with_reducible refine st_vr (w.heap.size + 1) _ t hq ?_ ?_ ?_); exact rfl; exact rfl; intro W hnew ho; replace hr := hr.only ho (by omega); replace hq := hnew; replace hb := ho.bel _ _ (by omega) hb))
      all_goals (refine bodyPost_ret (results_cell_two' results27 _ _ (w.heap.size + 1) _ _ _ rfl hq underlying31 rfl size_vr) rfl ?_; exact ⟨rfl, hb⟩)
theorem rwr_100_1 (s : V) (ok : s.Ok) (a v : Nat) (hv : v < 4294967296) (hm : accV s a = 0) (h : a = 100) (hs : s.se = 1) (w : World) :
    StViRWrC0 s a v w := by
  unfold StViRWrC0
  have HV : writeV s a v = (s.irw (qui s.ir v 2), -1, 0) := by unfold writeV; rw [if_pos hm]; unfold writeS; subst h; rw [qui_2 ((mayV_iff s).1 (accV_ok hm).1).ir hv]; rfl
  rw [HV]; clear HV
  have HC := hide (fun w => rvcheck_any s ok w)
  rw [(accV_ok hm).1] at HC
  replace HC : Hid (∀ w, Calls prog 14 #[.agg s.cells] w fun e w' => e = .returned (.int .i64 0) ∧ Below w.heap.size w w') := HC
  obtain ⟨t, ht⟩ : ∃ t, s.irw (qui s.ir v 2) = t := ⟨_, rfl⟩
  have hs2 : t.se = 1 := by rw [← ht]; exact hs
  rw [ht]
  have HT := hide ht
  clear ht hs
  have hs := hs2
  clear hs2
  have hse : ((t.se : Nat) : Int) = 1 := by omega
  clear hs
  subst h
  rw [show ((100 : Nat) : Int) = 100 from rfl]
  go_enter func27, ntmps27
  go_wp2_with (first | ((with_reducible refine bx_vr w.heap.size s ?_ ?_ ?_); exact rfl; exact rfl; intro W hr hb hz; have fx := hr.cell) | ((with_reducible refine al_vr (w.heap.size + 1) ?_ ?_); exact hz.out; intro W hq hb' hz'; replace hr := hr.bl (hz.out ▸ hb'); replace hb := hb.trans (hb'.mono (by omega)); replace hz := hz'; replace fx := hr.cell) | (go_at_call 14; (with_reducible refine (HC.out _).mono ?_); rintro e W ⟨rfl, hbc⟩; replace hr := hr.bl hbc; replace hq := hq.bl hbc; replace fx := hr.cell; replace hb := below_bl rfl hb hbc) | ((with_reducible refine ld_vr w.heap.size _ hr ?_ ?_ ?_); exact rfl; exact rfl))
  clear fx
  go_loopw [9] (fun iv wr => ∃ i : Nat, i ≤ 2 ∧ iv = .int .i64 (i : Nat) ∧ RowAt wr w.heap.size (s.irw (qui s.ir v i)).cells 31 ∧ RowAt wr (w.heap.size + 1) zeroV.cells 31 ∧ Below w.heap.size w wr) (fun iv _ => 2 - (intOf iv).toNat)
  case atStart => exact ⟨0, by omega, rfl, hr, hq, hb⟩
  case round =>
    clear hr hq hb hz
    obtain ⟨i, hi, rfl, hr, hq, hb⟩ := hrel
    have hi3 : i = 0 ∨ i = 1 ∨ i = 2 := by omega
    rcases hi3 with rfl | rfl | rfl
    · have HX := hide (qui_lt ok.ir v 0)
      obtain ⟨X, hX⟩ : ∃ x, qui s.ir v 0 = x := ⟨_, rfl⟩
      rw [hX] at hr HX
      have HS := hide (fun w => rclr_0 (s.irw X).ir HX.out w)
      have H := hide (fun w => rhas_0 v hv w)
      cases hb0 : v.testBit 0 with
      | false =>
        have HN : Hid (qui s.ir v 1 = X) := hide (by show (if v.testBit 0 = true then clrB (qui s.ir v 0) 0 else qui s.ir v 0) = X; rw [hb0, if_neg (by decide)]; exact hX)
        rw [hb0] at H
        clear hX
        go_wp2_with (first | (go_at_call 30; (with_reducible refine (H.out _).mono ?_); rintro e W ⟨rfl, rfl⟩))
        go_roundw
        case rel => exact ⟨1, by omega, by go_num, by rw [HN.out]; exact hr, hq, hb⟩
        case measure => decide
      | true =>
        have HN : Hid (qui s.ir v 1 = clrB X 0) := hide (by show (if v.testBit 0 = true then clrB (qui s.ir v 0) 0 else qui s.ir v 0) = _; rw [hb0, if_pos rfl, hX])
        rw [hb0] at H
        clear hX
        go_wp2_with (first | (go_at_call 30; (with_reducible refine (H.out _).mono ?_); rintro e W ⟨rfl, rfl⟩) | ((with_reducible refine ld_ir w.heap.size _ _ hr ?_ ?_ ?_); exact rfl; exact rfl) | (go_at_call 64; (with_reducible refine (HS.out _).mono ?_); rintro e W ⟨rfl, hbc⟩; replace hr := hr.bl hbc; replace hq := hq.bl hbc; replace hb := below_bl rfl hb hbc) | ((with_reducible refine st_ir w.heap.size _ (clrB X 0) _ hr ?_ ?_ ?_); exact rfl; exact rfl; intro W hnew ho; replace hq := hq.only ho (by omega); replace hr := hnew; replace hb := ho.bel _ _ (by omega) hb; (try clear fx)))
        go_roundw
        case rel => exact ⟨1, by omega, by go_num, by rw [HN.out]; exact hr, hq, hb⟩
        case measure => decide
    · have HX := hide (qui_lt ok.ir v 1)
      obtain ⟨X, hX⟩ : ∃ x, qui s.ir v 1 = x := ⟨_, rfl⟩
      rw [hX] at hr HX
      have HS := hide (fun w => rclr_1 (s.irw X).ir HX.out w)
      have H := hide (fun w => rhas_1 v hv w)
      cases hb0 : v.testBit 1 with
      | false =>
        have HN : Hid (qui s.ir v 2 = X) := hide (by show (if v.testBit 1 = true then clrB (qui s.ir v 1) 1 else qui s.ir v 1) = X; rw [hb0, if_neg (by decide)]; exact hX)
        rw [hb0] at H
        clear hX
        go_wp2_with (first | (go_at_call 30; (with_reducible refine (H.out _).mono ?_); rintro e W ⟨rfl, rfl⟩))
        go_roundw
        case rel => exact ⟨2, by omega, by go_num, by rw [HN.out]; exact hr, hq, hb⟩
        case measure => decide
      | true =>
        have HN : Hid (qui s.ir v 2 = clrB X 1) := hide (by show (if v.testBit 1 = true then clrB (qui s.ir v 1) 1 else qui s.ir v 1) = _; rw [hb0, if_pos rfl, hX])
        rw [hb0] at H
        clear hX
        go_wp2_with (first | (go_at_call 30; (with_reducible refine (H.out _).mono ?_); rintro e W ⟨rfl, rfl⟩) | ((with_reducible refine ld_ir w.heap.size _ _ hr ?_ ?_ ?_); exact rfl; exact rfl) | (go_at_call 64; (with_reducible refine (HS.out _).mono ?_); rintro e W ⟨rfl, hbc⟩; replace hr := hr.bl hbc; replace hq := hq.bl hbc; replace hb := below_bl rfl hb hbc) | ((with_reducible refine st_ir w.heap.size _ (clrB X 1) _ hr ?_ ?_ ?_); exact rfl; exact rfl; intro W hnew ho; replace hq := hq.only ho (by omega); replace hr := hnew; replace hb := ho.bel _ _ (by omega) hb; (try clear fx)))
        go_roundw
        case rel => exact ⟨2, by omega, by go_num, by rw [HN.out]; exact hr, hq, hb⟩
        case measure => decide
    · rw [HT.out] at hr
      go_wp2_with (first | ((with_reducible refine ld_se w.heap.size _ _ hr ?_ ?_ ?_); exact rfl; exact rfl) | ((with_reducible refine ld_q1r w.heap.size _ _ hr ?_ ?_ ?_); exact rfl; exact rfl) | (obtain ⟨NQ, hNQ⟩ : ∃ n, wr.heap.size = n := ⟨_, rfl⟩; have lNQ : w.heap.size + 2 ≤ NQ := (by (have := hq.lt; omega)); (with_reducible refine al_qr NQ ?_ ?_); exact hNQ; intro W hu hb' hz'; replace hr := hr.bl (hNQ ▸ hb'); replace hq := hq.bl (hNQ ▸ hb'); replace hb := hb.trans (hb'.mono (by omega)); clear hNQ hb' hz'; (try clear fx)) | ((with_reducible refine st_qr NQ _ t.q1 hu ?_ ?_ ?_); exact rfl; exact rfl; intro W hnew ho; replace hr := hr.only ho (by omega); replace hq := hq.only ho (by omega); replace hu := hnew; replace hb := ho.bel _ _ (by omega) hb) | ((with_reducible refine ld_urd NQ _ _ hu ?_ ?_ ?_); exact rfl; exact rfl) | ((with_reducible refine ld_qr NQ _ hu ?_ ?_ ?_); exact rfl; exact rfl) | ((with_reducible refine st_q1r w.heap.size _ t.q1 _ hr ?_ ?_ ?_); exact rfl; exact rfl; intro W hnew ho; replace hq := hq.only ho (by omega); replace hu := hu.only ho (by omega); replace hr := hnew; replace hb := ho.bel _ _ (by omega) hb) | ((with_reducible refine ld_vr w.heap.size _ hr ?_ ?_ ?_); exact rfl; exact rfl) | ((with_reducible refine st_vr (w.heap.size + 1) _ t hq ?_ ?_ ?_); exact rfl; exact rfl; intro W hnew ho; replace hr := hr.only ho (by omega); replace hq := hnew; replace hb := ho.bel _ _ (by omega) hb))
      all_goals (refine bodyPost_ret (results_cell_two' results27 _ _ (w.heap.size + 1) _ _ _ rfl hq underlying31 rfl size_vr) rfl ?_; exact ⟨rfl, hb⟩)
end Go.Proofs.YtbggkoahofnnjaaGreatDoor
