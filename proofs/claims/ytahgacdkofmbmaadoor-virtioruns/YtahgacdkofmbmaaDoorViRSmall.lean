/-
  What the document's Live, Fail and Used answer.
-/
import Derived.Test.YtahgacdkofmbmaaDoorViRBit
import Derived.Test.YtahgacdkofmbmaaDoorViRow
namespace Go.Proofs.YtahgacdkofmbmaaDoor
open Go.RowKit
set_option linter.unusedVariables false

attribute [local go_sem] V.at0 V.at1 V.at2 V.at3 V.at4 V.at5 V.at6 V.at7 V.at8 V.at9 V.at10 V.at11 V.at12 V.at13 V.at14 V.at15 V.at16 V.at17 V.at18 V.at19 V.at20 Qu.at0 Qu.at1 Qu.at2 Qu.at3 Qu.at4 Qu.at5 Qu.at6
set_option maxHeartbeats 1000000 in
theorem rlive_a (s : V) (ok : s.Ok) (h2 : s.st.testBit 2 = false) (w : World) :
    Calls Tryd.prog 15 #[.agg s.cells] w fun e w' => e = .returned (.bool (liveV s)) ∧ Below w.heap.size w w' := by
  have HV : liveV s = false := by unfold liveV; rw [h2]; simp
  rw [HV]; clear HV
  have H2 := hide (fun w => rhas_2 s.st ok.st w)
  rw [h2] at H2
  go_enter Tryd.func15, Tryd.ntmps15
  go_wp2_with (first | ((with_reducible refine bx_vr w.heap.size s ?_ ?_ ?_); exact rfl; exact rfl; intro W hr hb hz; have fx := hr.cell) | (go_at_call 30; (with_reducible refine (H2.out _).mono ?_); rintro e W ⟨rfl, rfl⟩))
  go_ret
  exact ⟨rfl, hb⟩

set_option maxHeartbeats 1000000 in
theorem rlive_b (s : V) (ok : s.Ok) (h2 : s.st.testBit 2 = true) (h3 : s.st.testBit 3 = false) (w : World) :
    Calls Tryd.prog 15 #[.agg s.cells] w fun e w' => e = .returned (.bool (liveV s)) ∧ Below w.heap.size w w' := by
  have HV : liveV s = false := by unfold liveV; rw [h2, h3]; simp
  rw [HV]; clear HV
  have H2 := hide (fun w => rhas_2 s.st ok.st w)
  rw [h2] at H2
  have H3 := hide (fun w => rhas_3 s.st ok.st w)
  rw [h3] at H3
  go_enter Tryd.func15, Tryd.ntmps15
  go_wp2_with (first | ((with_reducible refine bx_vr w.heap.size s ?_ ?_ ?_); exact rfl; exact rfl; intro W hr hb hz; have fx := hr.cell) | (go_at_call 30; (with_reducible refine (H2.out _).mono ?_); rintro e W ⟨rfl, rfl⟩) | (go_at_call 30; (with_reducible refine (H3.out _).mono ?_); rintro e W ⟨rfl, rfl⟩))
  go_ret
  exact ⟨rfl, hb⟩

set_option maxHeartbeats 1000000 in
theorem rlive_c (s : V) (ok : s.Ok) (h2 : s.st.testBit 2 = true) (h3 : s.st.testBit 3 = true) (h6 : s.st.testBit 6 = true) (w : World) :
    Calls Tryd.prog 15 #[.agg s.cells] w fun e w' => e = .returned (.bool (liveV s)) ∧ Below w.heap.size w w' := by
  have HV : liveV s = false := by unfold liveV; rw [h2, h3, h6]; simp
  rw [HV]; clear HV
  have H2 := hide (fun w => rhas_2 s.st ok.st w)
  rw [h2] at H2
  have H3 := hide (fun w => rhas_3 s.st ok.st w)
  rw [h3] at H3
  have H6 := hide (fun w => rhas_6 s.st ok.st w)
  rw [h6] at H6
  go_enter Tryd.func15, Tryd.ntmps15
  go_wp2_with (first | ((with_reducible refine bx_vr w.heap.size s ?_ ?_ ?_); exact rfl; exact rfl; intro W hr hb hz; have fx := hr.cell) | (go_at_call 30; (with_reducible refine (H2.out _).mono ?_); rintro e W ⟨rfl, rfl⟩) | (go_at_call 30; (with_reducible refine (H3.out _).mono ?_); rintro e W ⟨rfl, rfl⟩) | (go_at_call 30; (with_reducible refine (H6.out _).mono ?_); rintro e W ⟨rfl, rfl⟩))
  go_ret
  exact ⟨rfl, hb⟩

set_option maxHeartbeats 1000000 in
theorem rlive_d (s : V) (ok : s.Ok) (h2 : s.st.testBit 2 = true) (h3 : s.st.testBit 3 = true) (h6 : s.st.testBit 6 = false) (w : World) :
    Calls Tryd.prog 15 #[.agg s.cells] w fun e w' => e = .returned (.bool (liveV s)) ∧ Below w.heap.size w w' := by
  have HV : liveV s = true := by unfold liveV; rw [h2, h3, h6]; simp
  rw [HV]; clear HV
  have H2 := hide (fun w => rhas_2 s.st ok.st w)
  rw [h2] at H2
  have H3 := hide (fun w => rhas_3 s.st ok.st w)
  rw [h3] at H3
  have H6 := hide (fun w => rhas_6 s.st ok.st w)
  rw [h6] at H6
  go_enter Tryd.func15, Tryd.ntmps15
  go_wp2_with (first | ((with_reducible refine bx_vr w.heap.size s ?_ ?_ ?_); exact rfl; exact rfl; intro W hr hb hz; have fx := hr.cell) | (go_at_call 30; (with_reducible refine (H2.out _).mono ?_); rintro e W ⟨rfl, rfl⟩) | (go_at_call 30; (with_reducible refine (H3.out _).mono ?_); rintro e W ⟨rfl, rfl⟩) | (go_at_call 30; (with_reducible refine (H6.out _).mono ?_); rintro e W ⟨rfl, rfl⟩))
  go_ret
  exact ⟨rfl, hb⟩

theorem rlive_any (s : V) (ok : s.Ok) (w : World) : Calls Tryd.prog 15 #[.agg s.cells] w fun e w' => e = .returned (.bool (liveV s)) ∧ Below w.heap.size w w' := by
  cases h2 : s.st.testBit 2 with
  | false => exact rlive_a s ok h2 w
  | true =>
    cases h3 : s.st.testBit 3 with
    | false => exact rlive_b s ok h2 h3 w
    | true =>
      cases h6 : s.st.testBit 6 with
      | true => exact rlive_c s ok h2 h3 h6 w
      | false => exact rlive_d s ok h2 h3 h6 w
set_option maxHeartbeats 1000000 in
theorem rfail_any (s : V) (ok : s.Ok) (w : World) :
    Calls Tryd.prog 17 #[.agg s.cells] w fun e w' => e = .returned (.agg (failV s).cells) ∧ Below w.heap.size w w' := by
  have HA := hide (fun w => rset_6 s.st ok.st w)
  have HB := hide (fun w => rset_1 (s.stw (s.st ||| 64)).ir ok.ir w)
  go_enter Tryd.func17, Tryd.ntmps17
  go_wp2_with (first | ((with_reducible refine bx_vr w.heap.size s ?_ ?_ ?_); exact rfl; exact rfl; intro W hr hb hz; have fx := hr.cell) | ((with_reducible refine al_vr (w.heap.size + 1) ?_ ?_); exact hz.out; intro W hq hb' hz'; replace hr := hr.bl (hz.out ▸ hb'); replace hb := hb.trans (hb'.mono (by omega)); replace hz := hz'; replace fx := hr.cell) | ((with_reducible refine ld_st w.heap.size _ _ hr ?_ ?_ ?_); exact rfl; exact rfl) | ((with_reducible refine ld_ir w.heap.size _ _ hr ?_ ?_ ?_); exact rfl; exact rfl) | (go_at_call 32; (with_reducible refine (HA.out _).mono ?_); rintro e W ⟨rfl, hbc⟩; replace hr := hr.bl hbc; replace hq := hq.bl hbc; replace hb := below_bl rfl hb hbc) | (go_at_call 32; (with_reducible refine (HB.out _).mono ?_); rintro e W ⟨rfl, hbc⟩; replace hr := hr.bl hbc; replace hq := hq.bl hbc; replace hb := below_bl rfl hb hbc) | ((with_reducible refine st_st w.heap.size _ (s.st ||| 64) _ hr ?_ ?_ ?_); exact rfl; exact rfl; intro W hnew ho; replace hq := hq.only ho (by omega); replace hr := hnew; replace hb := ho.bel _ _ (by omega) hb; (try clear fx)) | ((with_reducible refine st_ir w.heap.size _ (s.ir ||| 2) _ hr ?_ ?_ ?_); exact rfl; exact rfl; intro W hnew ho; replace hq := hq.only ho (by omega); replace hr := hnew; replace hb := ho.bel _ _ (by omega) hb; (try clear fx)) | ((with_reducible refine ld_vr w.heap.size _ hr ?_ ?_ ?_); exact rfl; exact rfl) | ((with_reducible refine st_vr (w.heap.size + 1) _ (failV s) hq ?_ ?_ ?_); exact rfl; exact rfl; intro W hnew ho; replace hr := hr.only ho (by omega); replace hq := hnew; replace hb := ho.bel _ _ (by omega) hb))
  refine bodyPost_ret (results_cell_row Tryd.results17 _ _ (w.heap.size + 1) _ _ _ _ rfl hq Tryd.underlying31 rfl size_vr) rfl ?_
  exact ⟨rfl, hb⟩

set_option maxHeartbeats 1000000 in
theorem rused_any (s : V) (ok : s.Ok) (w : World) :
    Calls Tryd.prog 19 #[.agg s.cells] w fun e w' => e = .returned (.agg (usedV s).cells) ∧ Below w.heap.size w w' := by
  have HB := hide (fun w => rset_0 s.ir ok.ir w)
  go_enter Tryd.func19, Tryd.ntmps19
  go_wp2_with (first | ((with_reducible refine bx_vr w.heap.size s ?_ ?_ ?_); exact rfl; exact rfl; intro W hr hb hz; have fx := hr.cell) | ((with_reducible refine al_vr (w.heap.size + 1) ?_ ?_); exact hz.out; intro W hq hb' hz'; replace hr := hr.bl (hz.out ▸ hb'); replace hb := hb.trans (hb'.mono (by omega)); replace hz := hz'; replace fx := hr.cell) | ((with_reducible refine ld_ir w.heap.size _ _ hr ?_ ?_ ?_); exact rfl; exact rfl) | (go_at_call 32; (with_reducible refine (HB.out _).mono ?_); rintro e W ⟨rfl, hbc⟩; replace hr := hr.bl hbc; replace hq := hq.bl hbc; replace hb := below_bl rfl hb hbc) | ((with_reducible refine st_ir w.heap.size _ (s.ir ||| 1) _ hr ?_ ?_ ?_); exact rfl; exact rfl; intro W hnew ho; replace hq := hq.only ho (by omega); replace hr := hnew; replace hb := ho.bel _ _ (by omega) hb; (try clear fx)) | ((with_reducible refine ld_vr w.heap.size _ hr ?_ ?_ ?_); exact rfl; exact rfl) | ((with_reducible refine st_vr (w.heap.size + 1) _ (usedV s) hq ?_ ?_ ?_); exact rfl; exact rfl; intro W hnew ho; replace hr := hr.only ho (by omega); replace hq := hnew; replace hb := ho.bel _ _ (by omega) hb))
  refine bodyPost_ret (results_cell_row Tryd.results19 _ _ (w.heap.size + 1) _ _ _ _ rfl hq Tryd.underlying31 rfl size_vr) rfl ?_
  exact ⟨rfl, hb⟩

end Go.Proofs.YtahgacdkofmbmaaDoor
