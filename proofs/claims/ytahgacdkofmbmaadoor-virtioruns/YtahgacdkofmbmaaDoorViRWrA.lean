/-
  The document's Write: what is of no queue.
-/
import Derived.Test.YtahgacdkofmbmaaDoorViRCheck
import Derived.Test.YtahgacdkofmbmaaDoorViRRead
namespace Go.Proofs.YtahgacdkofmbmaaDoor
open Go.RowKit
set_option linter.unusedVariables false

attribute [local go_sem] V.at0 V.at1 V.at2 V.at3 V.at4 V.at5 V.at6 V.at7 V.at8 V.at9 V.at10 V.at11 V.at12 V.at13 V.at14 V.at15 V.at16 V.at17 V.at18 V.at19 V.at20 Qu.at0 Qu.at1 Qu.at2 Qu.at3 Qu.at4 Qu.at5 Qu.at6
set_option maxRecDepth 20000 in
set_option maxHeartbeats 2000000 in
theorem rwr_e1 (s : V) (ok : s.Ok) (a v : Nat) (hv : v < 4294967296) (hm : accV s a = 1)  (w : World) :
    Calls Tryd.prog 22 #[.agg s.cells, .int .u32 (a : Nat), .int .u32 (v : Nat)] w fun e w' => e = .returned (.tuple #[.agg (writeV s a v).1.cells, .int .i64 (writeV s a v).2.1, .int .i64 ((writeV s a v).2.2 : Nat)]) ∧ Below w.heap.size w w' := by
  have HV : writeV s a v = (zeroV, -1, 1) := by unfold writeV; rw [hm]; rfl
  rw [HV]; clear HV
  have HC := hide (fun w => vcheck_any s ok w)
  rw [accV_1 hm] at HC
  replace HC : Hid (∀ w, Calls Tryd.prog 13 #[.agg s.cells] w fun e w' => e = .returned (.int .i64 1) ∧ Below w.heap.size w w') := HC
  go_enter Tryd.func22, Tryd.ntmps22
  go_wp2_with (first | ((with_reducible refine bx_vr w.heap.size s ?_ ?_ ?_); exact rfl; exact rfl; intro W hr hb hz; have fx := hr.cell) | ((with_reducible refine al_vr (w.heap.size + 1) ?_ ?_); exact hz.out; intro W hq hb' hz'; replace hr := hr.bl (hz.out ▸ hb'); replace hb := hb.trans (hb'.mono (by omega)); replace hz := hz'; replace fx := hr.cell) | (go_at_call 13; (with_reducible refine (HC.out _).mono ?_); rintro e W ⟨rfl, hbc⟩; replace hr := hr.bl hbc; replace hq := hq.bl hbc; replace fx := hr.cell; replace hb := below_bl rfl hb hbc) | ((with_reducible refine ld_vr w.heap.size _ hr ?_ ?_ ?_); exact rfl; exact rfl) | ((with_reducible refine st_vr (w.heap.size + 1) _ zeroV hq ?_ ?_ ?_); exact rfl; exact rfl; intro W hnew ho; replace hr := hr.only ho (by omega); replace hq := hnew; replace hb := ho.bel _ _ (by omega) hb))
  all_goals (refine bodyPost_ret (results_cell_two' Tryd.results22 _ _ (w.heap.size + 1) _ _ _ rfl hq Tryd.underlying31 rfl size_vr) rfl ?_; exact ⟨rfl, hb⟩)

set_option maxRecDepth 20000 in
set_option maxHeartbeats 2000000 in
theorem rwr_ge (s : V) (ok : s.Ok) (a v : Nat) (hv : v < 4294967296) (hm : accV s a = 20) (h : 256 ≤ a) (w : World) :
    Calls Tryd.prog 22 #[.agg s.cells, .int .u32 (a : Nat), .int .u32 (v : Nat)] w fun e w' => e = .returned (.tuple #[.agg (writeV s a v).1.cells, .int .i64 (writeV s a v).2.1, .int .i64 ((writeV s a v).2.2 : Nat)]) ∧ Below w.heap.size w w' := by
  have HV : writeV s a v = (zeroV, -1, 20) := by unfold writeV; rw [hm]; rfl
  rw [HV]; clear HV
  have HC := hide (fun w => vcheck_any s ok w)
  rw [(accV_20 hm).1] at HC
  replace HC : Hid (∀ w, Calls Tryd.prog 13 #[.agg s.cells] w fun e w' => e = .returned (.int .i64 0) ∧ Below w.heap.size w w') := HC
  have g1 : (a : Int) > 255 := by omega
  have g2 : (255 : Int) < (a : Int) := by omega
  go_enter Tryd.func22, Tryd.ntmps22
  go_wp2_with (first | ((with_reducible refine bx_vr w.heap.size s ?_ ?_ ?_); exact rfl; exact rfl; intro W hr hb hz; have fx := hr.cell) | ((with_reducible refine al_vr (w.heap.size + 1) ?_ ?_); exact hz.out; intro W hq hb' hz'; replace hr := hr.bl (hz.out ▸ hb'); replace hb := hb.trans (hb'.mono (by omega)); replace hz := hz'; replace fx := hr.cell) | (go_at_call 13; (with_reducible refine (HC.out _).mono ?_); rintro e W ⟨rfl, hbc⟩; replace hr := hr.bl hbc; replace hq := hq.bl hbc; replace fx := hr.cell; replace hb := below_bl rfl hb hbc) | ((with_reducible refine ld_vr w.heap.size _ hr ?_ ?_ ?_); exact rfl; exact rfl) | ((with_reducible refine st_vr (w.heap.size + 1) _ zeroV hq ?_ ?_ ?_); exact rfl; exact rfl; intro W hnew ho; replace hr := hr.only ho (by omega); replace hq := hnew; replace hb := ho.bel _ _ (by omega) hb))
  all_goals (refine bodyPost_ret (results_cell_two' Tryd.results22 _ _ (w.heap.size + 1) _ _ _ rfl hq Tryd.underlying31 rfl size_vr) rfl ?_; exact ⟨rfl, hb⟩)

set_option maxRecDepth 20000 in
set_option maxHeartbeats 2000000 in
theorem rwr_od (s : V) (ok : s.Ok) (a v : Nat) (hv : v < 4294967296) (hm : accV s a = 20) (h : a < 256) (h4 : a % 4 ≠ 0) (w : World) :
    Calls Tryd.prog 22 #[.agg s.cells, .int .u32 (a : Nat), .int .u32 (v : Nat)] w fun e w' => e = .returned (.tuple #[.agg (writeV s a v).1.cells, .int .i64 (writeV s a v).2.1, .int .i64 ((writeV s a v).2.2 : Nat)]) ∧ Below w.heap.size w w' := by
  have HV : writeV s a v = (zeroV, -1, 20) := by unfold writeV; rw [hm]; rfl
  rw [HV]; clear HV
  have HC := hide (fun w => vcheck_any s ok w)
  rw [(accV_20 hm).1] at HC
  replace HC : Hid (∀ w, Calls Tryd.prog 13 #[.agg s.cells] w fun e w' => e = .returned (.int .i64 0) ∧ Below w.heap.size w w') := HC
  have g1 : decide ((a : Int) > 255) = false := by simp; omega
  have g2 : decide ((255 : Int) < (a : Int)) = false := by simp; omega
  have g3 : decide (255 < a) = false := by simp; omega
  have o1 : (((a : Int) % 4) != 0) = true := by simp; omega
  have o2 : ((((a % 4 : Nat)) : Int) != 0) = true := by simp; omega
  clear h4
  go_enter Tryd.func22, Tryd.ntmps22
  go_wp2_with (first | ((with_reducible refine bx_vr w.heap.size s ?_ ?_ ?_); exact rfl; exact rfl; intro W hr hb hz; have fx := hr.cell) | ((with_reducible refine al_vr (w.heap.size + 1) ?_ ?_); exact hz.out; intro W hq hb' hz'; replace hr := hr.bl (hz.out ▸ hb'); replace hb := hb.trans (hb'.mono (by omega)); replace hz := hz'; replace fx := hr.cell) | (go_at_call 13; (with_reducible refine (HC.out _).mono ?_); rintro e W ⟨rfl, hbc⟩; replace hr := hr.bl hbc; replace hq := hq.bl hbc; replace fx := hr.cell; replace hb := below_bl rfl hb hbc) | ((with_reducible refine ld_vr w.heap.size _ hr ?_ ?_ ?_); exact rfl; exact rfl) | ((with_reducible refine st_vr (w.heap.size + 1) _ zeroV hq ?_ ?_ ?_); exact rfl; exact rfl; intro W hnew ho; replace hr := hr.only ho (by omega); replace hq := hnew; replace hb := ho.bel _ _ (by omega) hb))
  all_goals (refine bodyPost_ret (results_cell_two' Tryd.results22 _ _ (w.heap.size + 1) _ _ _ rfl hq Tryd.underlying31 rfl size_vr) rfl ?_; exact ⟨rfl, hb⟩)

set_option maxRecDepth 20000 in
set_option maxHeartbeats 2000000 in
theorem rwr_20_far (s : V) (ok : s.Ok) (a v : Nat) (hv : v < 4294967296) (hm : accV s a = 0) (h : a = 20) (hs : 2 ≤ (s.fsw v).se) (w : World) :
    Calls Tryd.prog 22 #[.agg s.cells, .int .u32 (a : Nat), .int .u32 (v : Nat)] w fun e w' => e = .returned (.tuple #[.agg (writeV s a v).1.cells, .int .i64 (writeV s a v).2.1, .int .i64 ((writeV s a v).2.2 : Nat)]) ∧ Below w.heap.size w w' := by
  have HV : writeV s a v = (s.fsw v, -1, 0) := by unfold writeV; rw [if_pos hm]; unfold writeS; subst h; rfl
  rw [HV]; clear HV
  have HC := hide (fun w => vcheck_any s ok w)
  rw [(accV_ok hm).1] at HC
  replace HC : Hid (∀ w, Calls Tryd.prog 13 #[.agg s.cells] w fun e w' => e = .returned (.int .i64 0) ∧ Below w.heap.size w w') := HC
  obtain ⟨t, ht⟩ : ∃ t, s.fsw v = t := ⟨_, rfl⟩
  have hs2 : 2 ≤ t.se := by rw [← ht]; exact hs
  rw [ht]
  have HT := hide ht
  clear ht hs
  have hs := hs2
  clear hs2
  have lse : (t.se : Int) > 1 := by omega
  have lseb : (1 : Int) < (t.se : Int) := by omega
  clear hs
  subst h
  rw [show ((20 : Nat) : Int) = 20 from rfl]
  go_enter Tryd.func22, Tryd.ntmps22
  go_wp2_with (first | ((with_reducible refine bx_vr w.heap.size s ?_ ?_ ?_); exact rfl; exact rfl; intro W hr hb hz; have fx := hr.cell) | ((with_reducible refine al_vr (w.heap.size + 1) ?_ ?_); exact hz.out; intro W hq hb' hz'; replace hr := hr.bl (hz.out ▸ hb'); replace hb := hb.trans (hb'.mono (by omega)); replace hz := hz'; replace fx := hr.cell) | (go_at_call 13; (with_reducible refine (HC.out _).mono ?_); rintro e W ⟨rfl, hbc⟩; replace hr := hr.bl hbc; replace hq := hq.bl hbc; replace fx := hr.cell; replace hb := below_bl rfl hb hbc) | ((with_reducible refine st_fs w.heap.size _ v _ hr ?_ ?_ ?_); exact rfl; exact rfl; intro W hnew ho; replace hq := hq.only ho (by omega); replace hr := hnew; replace hb := ho.bel _ _ (by omega) hb; (try clear fx); rw [HT.out] at hr) | ((with_reducible refine ld_se w.heap.size _ _ hr ?_ ?_ ?_); exact rfl; exact rfl) | ((with_reducible refine ld_vr w.heap.size _ hr ?_ ?_ ?_); exact rfl; exact rfl) | ((with_reducible refine st_vr (w.heap.size + 1) _ t hq ?_ ?_ ?_); exact rfl; exact rfl; intro W hnew ho; replace hr := hr.only ho (by omega); replace hq := hnew; replace hb := ho.bel _ _ (by omega) hb))
  all_goals (refine bodyPost_ret (results_cell_two' Tryd.results22 _ _ (w.heap.size + 1) _ _ _ rfl hq Tryd.underlying31 rfl size_vr) rfl ?_; exact ⟨rfl, hb⟩)

set_option maxRecDepth 20000 in
set_option maxHeartbeats 2000000 in
theorem rwr_20_0 (s : V) (ok : s.Ok) (a v : Nat) (hv : v < 4294967296) (hm : accV s a = 0) (h : a = 20) (hs : (s.fsw v).se = 0) (w : World) :
    Calls Tryd.prog 22 #[.agg s.cells, .int .u32 (a : Nat), .int .u32 (v : Nat)] w fun e w' => e = .returned (.tuple #[.agg (writeV s a v).1.cells, .int .i64 (writeV s a v).2.1, .int .i64 ((writeV s a v).2.2 : Nat)]) ∧ Below w.heap.size w w' := by
  have HV : writeV s a v = (s.fsw v, -1, 0) := by unfold writeV; rw [if_pos hm]; unfold writeS; subst h; rfl
  rw [HV]; clear HV
  have HC := hide (fun w => vcheck_any s ok w)
  rw [(accV_ok hm).1] at HC
  replace HC : Hid (∀ w, Calls Tryd.prog 13 #[.agg s.cells] w fun e w' => e = .returned (.int .i64 0) ∧ Below w.heap.size w w') := HC
  obtain ⟨t, ht⟩ : ∃ t, s.fsw v = t := ⟨_, rfl⟩
  have hs2 : t.se = 0 := by rw [← ht]; exact hs
  rw [ht]
  have HT := hide ht
  clear ht hs
  have hs := hs2
  clear hs2
  have hse : ((t.se : Nat) : Int) = 0 := by omega
  clear hs
  subst h
  rw [show ((20 : Nat) : Int) = 20 from rfl]
  go_enter Tryd.func22, Tryd.ntmps22
  go_wp2_with (first | ((with_reducible refine bx_vr w.heap.size s ?_ ?_ ?_); exact rfl; exact rfl; intro W hr hb hz; have fx := hr.cell) | ((with_reducible refine al_vr (w.heap.size + 1) ?_ ?_); exact hz.out; intro W hq hb' hz'; replace hr := hr.bl (hz.out ▸ hb'); replace hb := hb.trans (hb'.mono (by omega)); replace hz := hz'; replace fx := hr.cell) | (go_at_call 13; (with_reducible refine (HC.out _).mono ?_); rintro e W ⟨rfl, hbc⟩; replace hr := hr.bl hbc; replace hq := hq.bl hbc; replace fx := hr.cell; replace hb := below_bl rfl hb hbc) | ((with_reducible refine st_fs w.heap.size _ v _ hr ?_ ?_ ?_); exact rfl; exact rfl; intro W hnew ho; replace hq := hq.only ho (by omega); replace hr := hnew; replace hb := ho.bel _ _ (by omega) hb; (try clear fx); rw [HT.out] at hr) | ((with_reducible refine ld_se w.heap.size _ _ hr ?_ ?_ ?_); exact rfl; exact rfl) | ((with_reducible refine ld_q0r w.heap.size _ _ hr ?_ ?_ ?_); exact rfl; exact rfl) | (obtain ⟨NQ, hNQ⟩ : ∃ n, W.heap.size = n := ⟨_, rfl⟩; have lNQ : w.heap.size + 2 ≤ NQ := (by (have := hq.lt; omega)); (with_reducible refine al_qr NQ ?_ ?_); exact hNQ; intro W hu hb' hz'; replace hr := hr.bl (hNQ ▸ hb'); replace hq := hq.bl (hNQ ▸ hb'); replace hb := hb.trans (hb'.mono (by omega)); clear hNQ hb' hz'; (try clear fx)) | ((with_reducible refine st_qr NQ _ t.q0 hu ?_ ?_ ?_); exact rfl; exact rfl; intro W hnew ho; replace hr := hr.only ho (by omega); replace hq := hq.only ho (by omega); replace hu := hnew; replace hb := ho.bel _ _ (by omega) hb) | ((with_reducible refine ld_urd NQ _ _ hu ?_ ?_ ?_); exact rfl; exact rfl) | ((with_reducible refine ld_qr NQ _ hu ?_ ?_ ?_); exact rfl; exact rfl) | ((with_reducible refine st_q0r w.heap.size _ t.q0 _ hr ?_ ?_ ?_); exact rfl; exact rfl; intro W hnew ho; replace hq := hq.only ho (by omega); replace hu := hu.only ho (by omega); replace hr := hnew; replace hb := ho.bel _ _ (by omega) hb) | ((with_reducible refine ld_vr w.heap.size _ hr ?_ ?_ ?_); exact rfl; exact rfl) | ((with_reducible refine st_vr (w.heap.size + 1) _ t hq ?_ ?_ ?_); exact rfl; exact rfl; intro W hnew ho; replace hr := hr.only ho (by omega); replace hq := hnew; replace hb := ho.bel _ _ (by omega) hb))
  all_goals (refine bodyPost_ret (results_cell_two' Tryd.results22 _ _ (w.heap.size + 1) _ _ _ rfl hq Tryd.underlying31 rfl size_vr) rfl ?_; exact ⟨rfl, hb⟩)

set_option maxRecDepth 20000 in
set_option maxHeartbeats 2000000 in
theorem rwr_20_1 (s : V) (ok : s.Ok) (a v : Nat) (hv : v < 4294967296) (hm : accV s a = 0) (h : a = 20) (hs : (s.fsw v).se = 1) (w : World) :
    Calls Tryd.prog 22 #[.agg s.cells, .int .u32 (a : Nat), .int .u32 (v : Nat)] w fun e w' => e = .returned (.tuple #[.agg (writeV s a v).1.cells, .int .i64 (writeV s a v).2.1, .int .i64 ((writeV s a v).2.2 : Nat)]) ∧ Below w.heap.size w w' := by
  have HV : writeV s a v = (s.fsw v, -1, 0) := by unfold writeV; rw [if_pos hm]; unfold writeS; subst h; rfl
  rw [HV]; clear HV
  have HC := hide (fun w => vcheck_any s ok w)
  rw [(accV_ok hm).1] at HC
  replace HC : Hid (∀ w, Calls Tryd.prog 13 #[.agg s.cells] w fun e w' => e = .returned (.int .i64 0) ∧ Below w.heap.size w w') := HC
  obtain ⟨t, ht⟩ : ∃ t, s.fsw v = t := ⟨_, rfl⟩
  have hs2 : t.se = 1 := by rw [← ht]; exact hs
  rw [ht]
  have HT := hide ht
  clear ht hs
  have hs := hs2
  clear hs2
  have hse : ((t.se : Nat) : Int) = 1 := by omega
  clear hs
  subst h
  rw [show ((20 : Nat) : Int) = 20 from rfl]
  go_enter Tryd.func22, Tryd.ntmps22
  go_wp2_with (first | ((with_reducible refine bx_vr w.heap.size s ?_ ?_ ?_); exact rfl; exact rfl; intro W hr hb hz; have fx := hr.cell) | ((with_reducible refine al_vr (w.heap.size + 1) ?_ ?_); exact hz.out; intro W hq hb' hz'; replace hr := hr.bl (hz.out ▸ hb'); replace hb := hb.trans (hb'.mono (by omega)); replace hz := hz'; replace fx := hr.cell) | (go_at_call 13; (with_reducible refine (HC.out _).mono ?_); rintro e W ⟨rfl, hbc⟩; replace hr := hr.bl hbc; replace hq := hq.bl hbc; replace fx := hr.cell; replace hb := below_bl rfl hb hbc) | ((with_reducible refine st_fs w.heap.size _ v _ hr ?_ ?_ ?_); exact rfl; exact rfl; intro W hnew ho; replace hq := hq.only ho (by omega); replace hr := hnew; replace hb := ho.bel _ _ (by omega) hb; (try clear fx); rw [HT.out] at hr) | ((with_reducible refine ld_se w.heap.size _ _ hr ?_ ?_ ?_); exact rfl; exact rfl) | ((with_reducible refine ld_q1r w.heap.size _ _ hr ?_ ?_ ?_); exact rfl; exact rfl) | (obtain ⟨NQ, hNQ⟩ : ∃ n, W.heap.size = n := ⟨_, rfl⟩; have lNQ : w.heap.size + 2 ≤ NQ := (by (have := hq.lt; omega)); (with_reducible refine al_qr NQ ?_ ?_); exact hNQ; intro W hu hb' hz'; replace hr := hr.bl (hNQ ▸ hb'); replace hq := hq.bl (hNQ ▸ hb'); replace hb := hb.trans (hb'.mono (by omega)); clear hNQ hb' hz'; (try clear fx)) | ((with_reducible refine st_qr NQ _ t.q1 hu ?_ ?_ ?_); exact rfl; exact rfl; intro W hnew ho; replace hr := hr.only ho (by omega); replace hq := hq.only ho (by omega); replace hu := hnew; replace hb := ho.bel _ _ (by omega) hb) | ((with_reducible refine ld_urd NQ _ _ hu ?_ ?_ ?_); exact rfl; exact rfl) | ((with_reducible refine ld_qr NQ _ hu ?_ ?_ ?_); exact rfl; exact rfl) | ((with_reducible refine st_q1r w.heap.size _ t.q1 _ hr ?_ ?_ ?_); exact rfl; exact rfl; intro W hnew ho; replace hq := hq.only ho (by omega); replace hu := hu.only ho (by omega); replace hr := hnew; replace hb := ho.bel _ _ (by omega) hb) | ((with_reducible refine ld_vr w.heap.size _ hr ?_ ?_ ?_); exact rfl; exact rfl) | ((with_reducible refine st_vr (w.heap.size + 1) _ t hq ?_ ?_ ?_); exact rfl; exact rfl; intro W hnew ho; replace hr := hr.only ho (by omega); replace hq := hnew; replace hb := ho.bel _ _ (by omega) hb))
  all_goals (refine bodyPost_ret (results_cell_two' Tryd.results22 _ _ (w.heap.size + 1) _ _ _ rfl hq Tryd.underlying31 rfl size_vr) rfl ?_; exact ⟨rfl, hb⟩)

set_option maxRecDepth 20000 in
set_option maxHeartbeats 2000000 in
theorem rwr_36_far (s : V) (ok : s.Ok) (a v : Nat) (hv : v < 4294967296) (hm : accV s a = 0) (h : a = 36) (hs : 2 ≤ (s.dsw v).se) (w : World) :
    Calls Tryd.prog 22 #[.agg s.cells, .int .u32 (a : Nat), .int .u32 (v : Nat)] w fun e w' => e = .returned (.tuple #[.agg (writeV s a v).1.cells, .int .i64 (writeV s a v).2.1, .int .i64 ((writeV s a v).2.2 : Nat)]) ∧ Below w.heap.size w w' := by
  have HV : writeV s a v = (s.dsw v, -1, 0) := by unfold writeV; rw [if_pos hm]; unfold writeS; subst h; rfl
  rw [HV]; clear HV
  have HC := hide (fun w => vcheck_any s ok w)
  rw [(accV_ok hm).1] at HC
  replace HC : Hid (∀ w, Calls Tryd.prog 13 #[.agg s.cells] w fun e w' => e = .returned (.int .i64 0) ∧ Below w.heap.size w w') := HC
  obtain ⟨t, ht⟩ : ∃ t, s.dsw v = t := ⟨_, rfl⟩
  have hs2 : 2 ≤ t.se := by rw [← ht]; exact hs
  rw [ht]
  have HT := hide ht
  clear ht hs
  have hs := hs2
  clear hs2
  have lse : (t.se : Int) > 1 := by omega
  have lseb : (1 : Int) < (t.se : Int) := by omega
  clear hs
  subst h
  rw [show ((36 : Nat) : Int) = 36 from rfl]
  go_enter Tryd.func22, Tryd.ntmps22
  go_wp2_with (first | ((with_reducible refine bx_vr w.heap.size s ?_ ?_ ?_); exact rfl; exact rfl; intro W hr hb hz; have fx := hr.cell) | ((with_reducible refine al_vr (w.heap.size + 1) ?_ ?_); exact hz.out; intro W hq hb' hz'; replace hr := hr.bl (hz.out ▸ hb'); replace hb := hb.trans (hb'.mono (by omega)); replace hz := hz'; replace fx := hr.cell) | (go_at_call 13; (with_reducible refine (HC.out _).mono ?_); rintro e W ⟨rfl, hbc⟩; replace hr := hr.bl hbc; replace hq := hq.bl hbc; replace fx := hr.cell; replace hb := below_bl rfl hb hbc) | ((with_reducible refine st_ds w.heap.size _ v _ hr ?_ ?_ ?_); exact rfl; exact rfl; intro W hnew ho; replace hq := hq.only ho (by omega); replace hr := hnew; replace hb := ho.bel _ _ (by omega) hb; (try clear fx); rw [HT.out] at hr) | ((with_reducible refine ld_se w.heap.size _ _ hr ?_ ?_ ?_); exact rfl; exact rfl) | ((with_reducible refine ld_vr w.heap.size _ hr ?_ ?_ ?_); exact rfl; exact rfl) | ((with_reducible refine st_vr (w.heap.size + 1) _ t hq ?_ ?_ ?_); exact rfl; exact rfl; intro W hnew ho; replace hr := hr.only ho (by omega); replace hq := hnew; replace hb := ho.bel _ _ (by omega) hb))
  all_goals (refine bodyPost_ret (results_cell_two' Tryd.results22 _ _ (w.heap.size + 1) _ _ _ rfl hq Tryd.underlying31 rfl size_vr) rfl ?_; exact ⟨rfl, hb⟩)

set_option maxRecDepth 20000 in
set_option maxHeartbeats 2000000 in
theorem rwr_36_0 (s : V) (ok : s.Ok) (a v : Nat) (hv : v < 4294967296) (hm : accV s a = 0) (h : a = 36) (hs : (s.dsw v).se = 0) (w : World) :
    Calls Tryd.prog 22 #[.agg s.cells, .int .u32 (a : Nat), .int .u32 (v : Nat)] w fun e w' => e = .returned (.tuple #[.agg (writeV s a v).1.cells, .int .i64 (writeV s a v).2.1, .int .i64 ((writeV s a v).2.2 : Nat)]) ∧ Below w.heap.size w w' := by
  have HV : writeV s a v = (s.dsw v, -1, 0) := by unfold writeV; rw [if_pos hm]; unfold writeS; subst h; rfl
  rw [HV]; clear HV
  have HC := hide (fun w => vcheck_any s ok w)
  rw [(accV_ok hm).1] at HC
  replace HC : Hid (∀ w, Calls Tryd.prog 13 #[.agg s.cells] w fun e w' => e = .returned (.int .i64 0) ∧ Below w.heap.size w w') := HC
  obtain ⟨t, ht⟩ : ∃ t, s.dsw v = t := ⟨_, rfl⟩
  have hs2 : t.se = 0 := by rw [← ht]; exact hs
  rw [ht]
  have HT := hide ht
  clear ht hs
  have hs := hs2
  clear hs2
  have hse : ((t.se : Nat) : Int) = 0 := by omega
  clear hs
  subst h
  rw [show ((36 : Nat) : Int) = 36 from rfl]
  go_enter Tryd.func22, Tryd.ntmps22
  go_wp2_with (first | ((with_reducible refine bx_vr w.heap.size s ?_ ?_ ?_); exact rfl; exact rfl; intro W hr hb hz; have fx := hr.cell) | ((with_reducible refine al_vr (w.heap.size + 1) ?_ ?_); exact hz.out; intro W hq hb' hz'; replace hr := hr.bl (hz.out ▸ hb'); replace hb := hb.trans (hb'.mono (by omega)); replace hz := hz'; replace fx := hr.cell) | (go_at_call 13; (with_reducible refine (HC.out _).mono ?_); rintro e W ⟨rfl, hbc⟩; replace hr := hr.bl hbc; replace hq := hq.bl hbc; replace fx := hr.cell; replace hb := below_bl rfl hb hbc) | ((with_reducible refine st_ds w.heap.size _ v _ hr ?_ ?_ ?_); exact rfl; exact rfl; intro W hnew ho; replace hq := hq.only ho (by omega); replace hr := hnew; replace hb := ho.bel _ _ (by omega) hb; (try clear fx); rw [HT.out] at hr) | ((with_reducible refine ld_se w.heap.size _ _ hr ?_ ?_ ?_); exact rfl; exact rfl) | ((with_reducible refine ld_q0r w.heap.size _ _ hr ?_ ?_ ?_); exact rfl; exact rfl) | (obtain ⟨NQ, hNQ⟩ : ∃ n, W.heap.size = n := ⟨_, rfl⟩; have lNQ : w.heap.size + 2 ≤ NQ := (by (have := hq.lt; omega)); (with_reducible refine al_qr NQ ?_ ?_); exact hNQ; intro W hu hb' hz'; replace hr := hr.bl (hNQ ▸ hb'); replace hq := hq.bl (hNQ ▸ hb'); replace hb := hb.trans (hb'.mono (by omega)); clear hNQ hb' hz'; (try clear fx)) | ((with_reducible refine st_qr NQ _ t.q0 hu ?_ ?_ ?_); exact rfl; exact rfl; intro W hnew ho; replace hr := hr.only ho (by omega); replace hq := hq.only ho (by omega); replace hu := hnew; replace hb := ho.bel _ _ (by omega) hb) | ((with_reducible refine ld_urd NQ _ _ hu ?_ ?_ ?_); exact rfl; exact rfl) | ((with_reducible refine ld_qr NQ _ hu ?_ ?_ ?_); exact rfl; exact rfl) | ((with_reducible refine st_q0r w.heap.size _ t.q0 _ hr ?_ ?_ ?_); exact rfl; exact rfl; intro W hnew ho; replace hq := hq.only ho (by omega); replace hu := hu.only ho (by omega); replace hr := hnew; replace hb := ho.bel _ _ (by omega) hb) | ((with_reducible refine ld_vr w.heap.size _ hr ?_ ?_ ?_); exact rfl; exact rfl) | ((with_reducible refine st_vr (w.heap.size + 1) _ t hq ?_ ?_ ?_); exact rfl; exact rfl; intro W hnew ho; replace hr := hr.only ho (by omega); replace hq := hnew; replace hb := ho.bel _ _ (by omega) hb))
  all_goals (refine bodyPost_ret (results_cell_two' Tryd.results22 _ _ (w.heap.size + 1) _ _ _ rfl hq Tryd.underlying31 rfl size_vr) rfl ?_; exact ⟨rfl, hb⟩)

set_option maxRecDepth 20000 in
set_option maxHeartbeats 2000000 in
theorem rwr_36_1 (s : V) (ok : s.Ok) (a v : Nat) (hv : v < 4294967296) (hm : accV s a = 0) (h : a = 36) (hs : (s.dsw v).se = 1) (w : World) :
    Calls Tryd.prog 22 #[.agg s.cells, .int .u32 (a : Nat), .int .u32 (v : Nat)] w fun e w' => e = .returned (.tuple #[.agg (writeV s a v).1.cells, .int .i64 (writeV s a v).2.1, .int .i64 ((writeV s a v).2.2 : Nat)]) ∧ Below w.heap.size w w' := by
  have HV : writeV s a v = (s.dsw v, -1, 0) := by unfold writeV; rw [if_pos hm]; unfold writeS; subst h; rfl
  rw [HV]; clear HV
  have HC := hide (fun w => vcheck_any s ok w)
  rw [(accV_ok hm).1] at HC
  replace HC : Hid (∀ w, Calls Tryd.prog 13 #[.agg s.cells] w fun e w' => e = .returned (.int .i64 0) ∧ Below w.heap.size w w') := HC
  obtain ⟨t, ht⟩ : ∃ t, s.dsw v = t := ⟨_, rfl⟩
  have hs2 : t.se = 1 := by rw [← ht]; exact hs
  rw [ht]
  have HT := hide ht
  clear ht hs
  have hs := hs2
  clear hs2
  have hse : ((t.se : Nat) : Int) = 1 := by omega
  clear hs
  subst h
  rw [show ((36 : Nat) : Int) = 36 from rfl]
  go_enter Tryd.func22, Tryd.ntmps22
  go_wp2_with (first | ((with_reducible refine bx_vr w.heap.size s ?_ ?_ ?_); exact rfl; exact rfl; intro W hr hb hz; have fx := hr.cell) | ((with_reducible refine al_vr (w.heap.size + 1) ?_ ?_); exact hz.out; intro W hq hb' hz'; replace hr := hr.bl (hz.out ▸ hb'); replace hb := hb.trans (hb'.mono (by omega)); replace hz := hz'; replace fx := hr.cell) | (go_at_call 13; (with_reducible refine (HC.out _).mono ?_); rintro e W ⟨rfl, hbc⟩; replace hr := hr.bl hbc; replace hq := hq.bl hbc; replace fx := hr.cell; replace hb := below_bl rfl hb hbc) | ((with_reducible refine st_ds w.heap.size _ v _ hr ?_ ?_ ?_); exact rfl; exact rfl; intro W hnew ho; replace hq := hq.only ho (by omega); replace hr := hnew; replace hb := ho.bel _ _ (by omega) hb; (try clear fx); rw [HT.out] at hr) | ((with_reducible refine ld_se w.heap.size _ _ hr ?_ ?_ ?_); exact rfl; exact rfl) | ((with_reducible refine ld_q1r w.heap.size _ _ hr ?_ ?_ ?_); exact rfl; exact rfl) | (obtain ⟨NQ, hNQ⟩ : ∃ n, W.heap.size = n := ⟨_, rfl⟩; have lNQ : w.heap.size + 2 ≤ NQ := (by (have := hq.lt; omega)); (with_reducible refine al_qr NQ ?_ ?_); exact hNQ; intro W hu hb' hz'; replace hr := hr.bl (hNQ ▸ hb'); replace hq := hq.bl (hNQ ▸ hb'); replace hb := hb.trans (hb'.mono (by omega)); clear hNQ hb' hz'; (try clear fx)) | ((with_reducible refine st_qr NQ _ t.q1 hu ?_ ?_ ?_); exact rfl; exact rfl; intro W hnew ho; replace hr := hr.only ho (by omega); replace hq := hq.only ho (by omega); replace hu := hnew; replace hb := ho.bel _ _ (by omega) hb) | ((with_reducible refine ld_urd NQ _ _ hu ?_ ?_ ?_); exact rfl; exact rfl) | ((with_reducible refine ld_qr NQ _ hu ?_ ?_ ?_); exact rfl; exact rfl) | ((with_reducible refine st_q1r w.heap.size _ t.q1 _ hr ?_ ?_ ?_); exact rfl; exact rfl; intro W hnew ho; replace hq := hq.only ho (by omega); replace hu := hu.only ho (by omega); replace hr := hnew; replace hb := ho.bel _ _ (by omega) hb) | ((with_reducible refine ld_vr w.heap.size _ hr ?_ ?_ ?_); exact rfl; exact rfl) | ((with_reducible refine st_vr (w.heap.size + 1) _ t hq ?_ ?_ ?_); exact rfl; exact rfl; intro W hnew ho; replace hr := hr.only ho (by omega); replace hq := hnew; replace hb := ho.bel _ _ (by omega) hb))
  all_goals (refine bodyPost_ret (results_cell_two' Tryd.results22 _ _ (w.heap.size + 1) _ _ _ rfl hq Tryd.underlying31 rfl size_vr) rfl ?_; exact ⟨rfl, hb⟩)

set_option maxRecDepth 20000 in
set_option maxHeartbeats 2000000 in
theorem rwr_48_far (s : V) (ok : s.Ok) (a v : Nat) (hv : v < 4294967296) (hm : accV s a = 0) (h : a = 48) (hs : 2 ≤ (s.sew v).se) (w : World) :
    Calls Tryd.prog 22 #[.agg s.cells, .int .u32 (a : Nat), .int .u32 (v : Nat)] w fun e w' => e = .returned (.tuple #[.agg (writeV s a v).1.cells, .int .i64 (writeV s a v).2.1, .int .i64 ((writeV s a v).2.2 : Nat)]) ∧ Below w.heap.size w w' := by
  have HV : writeV s a v = (s.sew v, -1, 0) := by unfold writeV; rw [if_pos hm]; unfold writeS; subst h; rfl
  rw [HV]; clear HV
  have HC := hide (fun w => vcheck_any s ok w)
  rw [(accV_ok hm).1] at HC
  replace HC : Hid (∀ w, Calls Tryd.prog 13 #[.agg s.cells] w fun e w' => e = .returned (.int .i64 0) ∧ Below w.heap.size w w') := HC
  obtain ⟨t, ht⟩ : ∃ t, s.sew v = t := ⟨_, rfl⟩
  have hs2 : 2 ≤ t.se := by rw [← ht]; exact hs
  rw [ht]
  have HT := hide ht
  clear ht hs
  have hs := hs2
  clear hs2
  have lse : (t.se : Int) > 1 := by omega
  have lseb : (1 : Int) < (t.se : Int) := by omega
  clear hs
  subst h
  rw [show ((48 : Nat) : Int) = 48 from rfl]
  go_enter Tryd.func22, Tryd.ntmps22
  go_wp2_with (first | ((with_reducible refine bx_vr w.heap.size s ?_ ?_ ?_); exact rfl; exact rfl; intro W hr hb hz; have fx := hr.cell) | ((with_reducible refine al_vr (w.heap.size + 1) ?_ ?_); exact hz.out; intro W hq hb' hz'; replace hr := hr.bl (hz.out ▸ hb'); replace hb := hb.trans (hb'.mono (by omega)); replace hz := hz'; replace fx := hr.cell) | (go_at_call 13; (with_reducible refine (HC.out _).mono ?_); rintro e W ⟨rfl, hbc⟩; replace hr := hr.bl hbc; replace hq := hq.bl hbc; replace fx := hr.cell; replace hb := below_bl rfl hb hbc) | ((with_reducible refine st_se w.heap.size _ v _ hr ?_ ?_ ?_); exact rfl; exact rfl; intro W hnew ho; replace hq := hq.only ho (by omega); replace hr := hnew; replace hb := ho.bel _ _ (by omega) hb; (try clear fx); rw [HT.out] at hr) | ((with_reducible refine ld_se w.heap.size _ _ hr ?_ ?_ ?_); exact rfl; exact rfl) | ((with_reducible refine ld_vr w.heap.size _ hr ?_ ?_ ?_); exact rfl; exact rfl) | ((with_reducible refine st_vr (w.heap.size + 1) _ t hq ?_ ?_ ?_); exact rfl; exact rfl; intro W hnew ho; replace hr := hr.only ho (by omega); replace hq := hnew; replace hb := ho.bel _ _ (by omega) hb))
  all_goals (refine bodyPost_ret (results_cell_two' Tryd.results22 _ _ (w.heap.size + 1) _ _ _ rfl hq Tryd.underlying31 rfl size_vr) rfl ?_; exact ⟨rfl, hb⟩)

set_option maxRecDepth 20000 in
set_option maxHeartbeats 2000000 in
theorem rwr_48_0 (s : V) (ok : s.Ok) (a v : Nat) (hv : v < 4294967296) (hm : accV s a = 0) (h : a = 48) (hs : (s.sew v).se = 0) (w : World) :
    Calls Tryd.prog 22 #[.agg s.cells, .int .u32 (a : Nat), .int .u32 (v : Nat)] w fun e w' => e = .returned (.tuple #[.agg (writeV s a v).1.cells, .int .i64 (writeV s a v).2.1, .int .i64 ((writeV s a v).2.2 : Nat)]) ∧ Below w.heap.size w w' := by
  have HV : writeV s a v = (s.sew v, -1, 0) := by unfold writeV; rw [if_pos hm]; unfold writeS; subst h; rfl
  rw [HV]; clear HV
  have HC := hide (fun w => vcheck_any s ok w)
  rw [(accV_ok hm).1] at HC
  replace HC : Hid (∀ w, Calls Tryd.prog 13 #[.agg s.cells] w fun e w' => e = .returned (.int .i64 0) ∧ Below w.heap.size w w') := HC
  obtain ⟨t, ht⟩ : ∃ t, s.sew v = t := ⟨_, rfl⟩
  have hs2 : t.se = 0 := by rw [← ht]; exact hs
  rw [ht]
  have HT := hide ht
  clear ht hs
  have hs := hs2
  clear hs2
  have hse : ((t.se : Nat) : Int) = 0 := by omega
  clear hs
  subst h
  rw [show ((48 : Nat) : Int) = 48 from rfl]
  go_enter Tryd.func22, Tryd.ntmps22
  go_wp2_with (first | ((with_reducible refine bx_vr w.heap.size s ?_ ?_ ?_); exact rfl; exact rfl; intro W hr hb hz; have fx := hr.cell) | ((with_reducible refine al_vr (w.heap.size + 1) ?_ ?_); exact hz.out; intro W hq hb' hz'; replace hr := hr.bl (hz.out ▸ hb'); replace hb := hb.trans (hb'.mono (by omega)); replace hz := hz'; replace fx := hr.cell) | (go_at_call 13; (with_reducible refine (HC.out _).mono ?_); rintro e W ⟨rfl, hbc⟩; replace hr := hr.bl hbc; replace hq := hq.bl hbc; replace fx := hr.cell; replace hb := below_bl rfl hb hbc) | ((with_reducible refine st_se w.heap.size _ v _ hr ?_ ?_ ?_); exact rfl; exact rfl; intro W hnew ho; replace hq := hq.only ho (by omega); replace hr := hnew; replace hb := ho.bel _ _ (by omega) hb; (try clear fx); rw [HT.out] at hr) | ((with_reducible refine ld_se w.heap.size _ _ hr ?_ ?_ ?_); exact rfl; exact rfl) | ((with_reducible refine ld_q0r w.heap.size _ _ hr ?_ ?_ ?_); exact rfl; exact rfl) | (obtain ⟨NQ, hNQ⟩ : ∃ n, W.heap.size = n := ⟨_, rfl⟩; have lNQ : w.heap.size + 2 ≤ NQ := (by (have := hq.lt; omega)); (with_reducible refine al_qr NQ ?_ ?_); exact hNQ; intro W hu hb' hz'; replace hr := hr.bl (hNQ ▸ hb'); replace hq := hq.bl (hNQ ▸ hb'); replace hb := hb.trans (hb'.mono (by omega)); clear hNQ hb' hz'; (try clear fx)) | ((with_reducible refine st_qr NQ _ t.q0 hu ?_ ?_ ?_); exact rfl; exact rfl; intro W hnew ho; replace hr := hr.only ho (by omega); replace hq := hq.only ho (by omega); replace hu := hnew; replace hb := ho.bel _ _ (by omega) hb) | ((with_reducible refine ld_urd NQ _ _ hu ?_ ?_ ?_); exact rfl; exact rfl) | ((with_reducible refine ld_qr NQ _ hu ?_ ?_ ?_); exact rfl; exact rfl) | ((with_reducible refine st_q0r w.heap.size _ t.q0 _ hr ?_ ?_ ?_); exact rfl; exact rfl; intro W hnew ho; replace hq := hq.only ho (by omega); replace hu := hu.only ho (by omega); replace hr := hnew; replace hb := ho.bel _ _ (by omega) hb) | ((with_reducible refine ld_vr w.heap.size _ hr ?_ ?_ ?_); exact rfl; exact rfl) | ((with_reducible refine st_vr (w.heap.size + 1) _ t hq ?_ ?_ ?_); exact rfl; exact rfl; intro W hnew ho; replace hr := hr.only ho (by omega); replace hq := hnew; replace hb := ho.bel _ _ (by omega) hb))
  all_goals (refine bodyPost_ret (results_cell_two' Tryd.results22 _ _ (w.heap.size + 1) _ _ _ rfl hq Tryd.underlying31 rfl size_vr) rfl ?_; exact ⟨rfl, hb⟩)

set_option maxRecDepth 20000 in
set_option maxHeartbeats 2000000 in
theorem rwr_48_1 (s : V) (ok : s.Ok) (a v : Nat) (hv : v < 4294967296) (hm : accV s a = 0) (h : a = 48) (hs : (s.sew v).se = 1) (w : World) :
    Calls Tryd.prog 22 #[.agg s.cells, .int .u32 (a : Nat), .int .u32 (v : Nat)] w fun e w' => e = .returned (.tuple #[.agg (writeV s a v).1.cells, .int .i64 (writeV s a v).2.1, .int .i64 ((writeV s a v).2.2 : Nat)]) ∧ Below w.heap.size w w' := by
  have HV : writeV s a v = (s.sew v, -1, 0) := by unfold writeV; rw [if_pos hm]; unfold writeS; subst h; rfl
  rw [HV]; clear HV
  have HC := hide (fun w => vcheck_any s ok w)
  rw [(accV_ok hm).1] at HC
  replace HC : Hid (∀ w, Calls Tryd.prog 13 #[.agg s.cells] w fun e w' => e = .returned (.int .i64 0) ∧ Below w.heap.size w w') := HC
  obtain ⟨t, ht⟩ : ∃ t, s.sew v = t := ⟨_, rfl⟩
  have hs2 : t.se = 1 := by rw [← ht]; exact hs
  rw [ht]
  have HT := hide ht
  clear ht hs
  have hs := hs2
  clear hs2
  have hse : ((t.se : Nat) : Int) = 1 := by omega
  clear hs
  subst h
  rw [show ((48 : Nat) : Int) = 48 from rfl]
  go_enter Tryd.func22, Tryd.ntmps22
  go_wp2_with (first | ((with_reducible refine bx_vr w.heap.size s ?_ ?_ ?_); exact rfl; exact rfl; intro W hr hb hz; have fx := hr.cell) | ((with_reducible refine al_vr (w.heap.size + 1) ?_ ?_); exact hz.out; intro W hq hb' hz'; replace hr := hr.bl (hz.out ▸ hb'); replace hb := hb.trans (hb'.mono (by omega)); replace hz := hz'; replace fx := hr.cell) | (go_at_call 13; (with_reducible refine (HC.out _).mono ?_); rintro e W ⟨rfl, hbc⟩; replace hr := hr.bl hbc; replace hq := hq.bl hbc; replace fx := hr.cell; replace hb := below_bl rfl hb hbc) | ((with_reducible refine st_se w.heap.size _ v _ hr ?_ ?_ ?_); exact rfl; exact rfl; intro W hnew ho; replace hq := hq.only ho (by omega); replace hr := hnew; replace hb := ho.bel _ _ (by omega) hb; (try clear fx); rw [HT.out] at hr) | ((with_reducible refine ld_se w.heap.size _ _ hr ?_ ?_ ?_); exact rfl; exact rfl) | ((with_reducible refine ld_q1r w.heap.size _ _ hr ?_ ?_ ?_); exact rfl; exact rfl) | (obtain ⟨NQ, hNQ⟩ : ∃ n, W.heap.size = n := ⟨_, rfl⟩; have lNQ : w.heap.size + 2 ≤ NQ := (by (have := hq.lt; omega)); (with_reducible refine al_qr NQ ?_ ?_); exact hNQ; intro W hu hb' hz'; replace hr := hr.bl (hNQ ▸ hb'); replace hq := hq.bl (hNQ ▸ hb'); replace hb := hb.trans (hb'.mono (by omega)); clear hNQ hb' hz'; (try clear fx)) | ((with_reducible refine st_qr NQ _ t.q1 hu ?_ ?_ ?_); exact rfl; exact rfl; intro W hnew ho; replace hr := hr.only ho (by omega); replace hq := hq.only ho (by omega); replace hu := hnew; replace hb := ho.bel _ _ (by omega) hb) | ((with_reducible refine ld_urd NQ _ _ hu ?_ ?_ ?_); exact rfl; exact rfl) | ((with_reducible refine ld_qr NQ _ hu ?_ ?_ ?_); exact rfl; exact rfl) | ((with_reducible refine st_q1r w.heap.size _ t.q1 _ hr ?_ ?_ ?_); exact rfl; exact rfl; intro W hnew ho; replace hq := hq.only ho (by omega); replace hu := hu.only ho (by omega); replace hr := hnew; replace hb := ho.bel _ _ (by omega) hb) | ((with_reducible refine ld_vr w.heap.size _ hr ?_ ?_ ?_); exact rfl; exact rfl) | ((with_reducible refine st_vr (w.heap.size + 1) _ t hq ?_ ?_ ?_); exact rfl; exact rfl; intro W hnew ho; replace hr := hr.only ho (by omega); replace hq := hnew; replace hb := ho.bel _ _ (by omega) hb))
  all_goals (refine bodyPost_ret (results_cell_two' Tryd.results22 _ _ (w.heap.size + 1) _ _ _ rfl hq Tryd.underlying31 rfl size_vr) rfl ?_; exact ⟨rfl, hb⟩)

end Go.Proofs.YtahgacdkofmbmaaDoor
